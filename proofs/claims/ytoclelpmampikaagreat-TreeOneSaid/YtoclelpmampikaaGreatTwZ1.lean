/-
  Joined: TwA, TwB, TwC, TwD.
-/
import Derived.Test.YtoclelpmampikaaGreatWordH
import Derived.Test.YtoclelpmampikaaGreatOwn
import Derived.Test.YtoclelpmampikaaGreatBkI
import Derived.Test.YtoclelpmampikaaGreatHeldF
import Derived.Great.Ranges
import Derived.Deep.DeepCutAuto
import Derived.Deep.CutBlock
import Derived.Deep.LoopGhost
import Derived.Test.YtoclelpmampikaaGreatClsC
namespace Go.Proofs.YtoclelpmampikaaGreat
set_option maxRecDepth 100000
section
open Go.RowKit
set_option linter.unusedVariables false
set_option maxHeartbeats 400000 in
theorem up_any (g k : Nat) (hk : k < 100) (w : World) (hc : w.cell? ⟨g, 0, none⟩ = some (.int .i64 (k : Int))) (hf : w.frozen? ⟨g, 0, none⟩ = false) :
    Calls Tryz.prog 64 #[.pointer (some ⟨g, 0, none⟩)] w fun e w' => e = .returned (.int .i64 (k : Int)) ∧ w.setCell ⟨g, 0, none⟩ (.int .i64 ((k : Int) + 1)) = w' := by
  go_enter Tryz.func64, Tryz.ntmps64
  go_wp2
  go_ret
  exact ⟨ret_int (by omega), rfl⟩
set_option maxHeartbeats 400000 in
theorem spell_up (n v g : Nat) (h1 : 1 ≤ n) (h8 : n ≤ 8) (hv : v < 2 ^ 64) (w : World) (hg : w.heap[g]? = some (.cells #[.int .i64 0] 118 (0, 0))) :
    Calls Tryz.prog 63 #[.int .i64 (n : Int), .int .u64 (v : Int), .func (Fn.func 64) #[.pointer (some ⟨g, 0, none⟩)] #[]] w
      fun e w' => e = .returned (.slice (some ⟨w.heap.size, 0, none⟩) n n) ∧ w.grownBy w' (some g) ∧ w'.heap[w.heap.size]? = some (.cells (rowOf (fun k => v / 256 ^ k % 256) n n) 5 (0, 0)) := by
  have hgw := blk_lt hg
  have HS := Lib.hid (spell_start (S := fun j => (j : Int)) (fun k => v / 256 ^ k % 256) n hg)
  clear hg
  have hm := make_bytes n (by omega)
  go_enter Tryz.func63, Tryz.ntmps63
  go_wp2_with (go_at_call 80; refine (fits_yes n h1 h8 _).mono ?_; rintro e w' ⟨rfl, rfl⟩)
  go_loopw [16] (fun k wr => SpellRel w g 118 (fun j => (j : Int)) (fun k => v / 256 ^ k % 256) n k wr) (fun k _ => (n - intOf k).toNat)
  case atStart => exact HS.out
  case round =>
    obtain ⟨j, rfl, hj, hb, hc1, hc2⟩ := hrel
    clear hm HS
    by_cases hlt : j < n
    · have hcell : wr.cell? ⟨g, 0, none⟩ = some (.int .i64 (j : Int)) := by simpa using blk_cell hc1 0
      have hfz := blk_free hc1 0
      have hs := spell_step (S := fun j => (j : Int)) hlt hgw hb hc1 hc2
      have k2 := blk_far hc2 (p := ⟨g, 0, none⟩) (by show w.heap.size ≠ g; omega) (.int .i64 ((j : Int) + 1))
      have f1 : (wr.setCell ⟨g, 0, none⟩ (.int .i64 ((j : Int) + 1))).cell? ⟨w.heap.size, j, none⟩ = some _ := (blk_cell k2 j).trans (Array.getElem?_eq_getElem (by rw [rowOf_size]; omega))
      have f2 : (wr.setCell ⟨g, 0, none⟩ (.int .i64 ((j : Int) + 1))).frozen? ⟨w.heap.size, j, none⟩ = false := blk_free k2 j
      clear hc1 hc2 hb k2
      go_wp2_with fail
      refine (up_any g j (by omega) _ hcell hfz).mono ?_
      rintro e w1 ⟨rfl, hw1⟩
      have hs2 : SpellRel w g 118 (fun j => (j : Int)) (fun k => v / 256 ^ k % 256) n (.int .i64 ((j : Int) + 1)) (w1.setCell ⟨w.heap.size, j, none⟩ (.int .u8 ((v / 256 ^ j % 256 : Nat) : Int))) := hw1 ▸ hs
      rw [hw1] at f1 f2
      generalize (rowOf (fun k => v / 256 ^ k % 256) n j)[j]'_ = old at f1
      have HS := Lib.hid hs2
      clear hw1 hs hs2 hcell hfz
      go_wp2
      go_roundw
      case rel => rw [shr_byte]; exact HS.out
      case measure => simp [intOf]; omega
    · obtain rfl : j = n := by omega
      go_wp2
      go_ret
      exact ⟨rfl, hb, hc2⟩
set_option maxHeartbeats 400000 in
theorem put_yes (n v : Nat) (h1 : 1 ≤ n) (h8 : n ≤ 8) (hv : v < 2 ^ 64) (w : World) :
    Calls Tryz.prog 44 #[.int .i64 (n : Int), .int .u64 (v : Int)] w (Gives w (putL n v)) := by
  have hz : ∀ w : World, (zeroValue 118).run Tryz.prog w = .ok (.agg #[.int .i64 0]) w := fun _ => by kernel_rfl
  go_enter Tryz.func44, Tryz.ntmps44
  go_wp2_with fail
  refine (spell_up n v _ h1 h8 hv _ (heap_alloc_new w _)).mono ?_
  rintro e w' ⟨rfl, hb, hx⟩
  have hg : Gives w (putL n v) _ _ := put_close h8 (fun i _ => Nat.mod_lt _ (by omega)) rfl hb hx
  have HG := Lib.hid hg
  clear hb hx hg
  go_wp2
  go_ret
  exact HG.out
def RefPutRel (w : World) (V n : Nat) (v i x : Value) (wr : World) : Prop :=
  ∃ k : Nat, i = .int .i64 (k : Int) ∧ x = .int .u64 ((V / 256 ^ k : Nat) : Int) ∧ k ≤ n ∧ Own wr w.heap.size v (putL k V) ∧ Below w.heap.size w wr
set_option maxHeartbeats 400000 in
theorem refPut_yes (n v : Nat) (h1 : 1 ≤ n) (h8 : n ≤ 8) (hv : v < 2 ^ 64) (w : World) :
    Calls Tryz.prog 59 #[.int .i64 (n : Int), .int .u64 (v : Int)] w (Gives w (putL n v)) := by
  go_enter Tryz.func59, Tryz.ntmps59
  go_wp2
  go_loopw [5, 6, 1] (fun b i x wr => RefPutRel w v n b i x wr) (fun _ i _ _ => (n - intOf i).toNat)
  case atStart => exact ⟨0, rfl, by simp, by omega, Own.nil _ _, Below.refl _ _⟩
  case round =>
    obtain ⟨k, rfl, rfl, hk, hown, hb⟩ := hrel
    by_cases hlt : k < n
    · have hq : v / 256 ^ k < 2 ^ 64 := Nat.lt_of_le_of_lt (Nat.div_le_self _ _) hv
      have hlen := putL_len k v
      have hB := hb.size
      generalize hQ : v / 256 ^ k = q at *
      have HQ := Lib.hid hQ
      have HL := Lib.hid hlen
      have hln : (putL k v).length ≤ 8 := by omega
      clear hQ hlen
      go_wp2_with (at_builtin; refine wp_app _ rfl _ _ rfl _ _ _ _ (q % 256) rfl hown rfl (by omega) (by omega) hB ?_; intro v' w1 hown1 hb1)
      go_roundw
      case rel =>
        refine ⟨k + 1, rfl, ?_, by omega, ?_, hb.trans hb1⟩
        · rw [Nat.pow_succ, ← Nat.div_div_eq_div_mul, HQ.out]; rfl
        · rw [putL_succ, HQ.out]; exact hown1
      case measure => simp [intOf]; omega
    · obtain rfl : k = n := by omega
      have HG : Gives w (putL k v) (.returned u5) wr := by
        obtain ⟨A, c, rfl, hbs⟩ := hown.bs (putL_byte k v)
        exact ⟨A, c, rfl, hb, hbs⟩
      have H := Lib.hid HG
      clear HG hown
      go_wp2
      go_ret
      exact H.out
end
section
open Go.RowKit Go
set_option linter.unusedVariables false
set_option linter.unusedSimpArgs false
/-- a digest's cells -/
abbrev dA (d : List Nat) : Array Value := rowV (bF d) 32
theorem dA_one (d : List Nat) : (dA d).all (·.oneCell') = true := by
  rw [Array.all_eq_true]
  intro i hi
  have h := rowV_at (bF d) (n := 32) (i := i) (by rw [rowV_size] at hi; exact hi)
  rw [Array.getElem?_eq_getElem hi] at h
  rw [Option.some.inj h]
  rfl
theorem digA_dA (m : List Nat) : digA m = dA (Sha.sum m) := rfl
theorem bs_dig {w : World} {p : Nat} {d : List Nat} {t : TypeId} (h : w.heap[p]? = some (.cells (dA d) t (0, 0))) (hd : IsDig d) : BS w w.heap.size (some ⟨p, 0, none⟩) 32 32 d :=
  BS.of_blk h (blk_lt h) hd.1 (Nat.le_refl _) (by omega) hd.2 (fun i hi => rowV_at _ hi)
theorem bs_some {w : World} {B n c : Nat} {A : Option Addr} {l : List Nat} (h : BS w B A n c l) (hn : 0 < n) : A = none → c = 0 := fun e => by
  obtain ⟨b, o, h1, _⟩ := h.2.2.2.2 hn
  rw [e] at h1; cases h1
theorem pts_four {w : World} {b : Nat} {A1 A2 A3 A4 : Option Addr} {n1 n2 n3 n4 c1 c2 c3 c4 : Nat} {x1 x2 x3 x4 : List Nat} {t : TypeId} (hb : w.heap[b]? = some (.cells #[.slice A1 n1 c1, .slice A2 n2 c2, .slice A3 n3 c3, .slice A4 n4 c4] t (0, 0)))
    (h1 : BS w w.heap.size A1 n1 c1 x1) (h2 : BS w w.heap.size A2 n2 c2 x2) (h3 : BS w w.heap.size A3 n3 c3 x3) (h4 : BS w w.heap.size A4 n4 c4 x4) (z1 : A1 = none → c1 = 0) (z2 : A2 = none → c2 = 0) (z3 : A3 = none → c3 = 0) (z4 : A4 = none → c4 = 0) :
    PtsZ w (.slice (some ⟨b, 0, none⟩) 4 4) [x1, x2, x3, x4] := by
  refine ⟨_, 4, rfl, Nat.le_refl _, fun _ => ⟨b, 0, rfl, blk_lt hb, fun i hi => ?_⟩⟩
  rw [Nat.zero_add]
  match i, hi with
  | 0, _ => exact ⟨A1, c1, by rw [show ([x1, x2, x3, x4] : List (List Nat)).getD 0 [] = x1 from rfl, h1.len]; exact blk_cell hb 0, by rw [show ([x1, x2, x3, x4] : List (List Nat)).getD 0 [] = x1 from rfl, h1.len]; exact h1, z1⟩
  | 1, _ => exact ⟨A2, c2, by rw [show ([x1, x2, x3, x4] : List (List Nat)).getD 1 [] = x2 from rfl, h2.len]; exact blk_cell hb 1, by rw [show ([x1, x2, x3, x4] : List (List Nat)).getD 1 [] = x2 from rfl, h2.len]; exact h2, z2⟩
  | 2, _ => exact ⟨A3, c3, by rw [show ([x1, x2, x3, x4] : List (List Nat)).getD 2 [] = x3 from rfl, h3.len]; exact blk_cell hb 2, by rw [show ([x1, x2, x3, x4] : List (List Nat)).getD 2 [] = x3 from rfl, h3.len]; exact h3, z3⟩
  | 3, _ => exact ⟨A4, c4, by rw [show ([x1, x2, x3, x4] : List (List Nat)).getD 3 [] = x4 from rfl, h4.len]; exact blk_cell hb 3, by rw [show ([x1, x2, x3, x4] : List (List Nat)).getD 3 [] = x4 from rfl, h4.len]; exact h4, z4⟩
/-- a sum's result is laid in its block -/
theorem sum_last {u w8 w9 : World} {b g r : Nat} {S : Nat → Prop} {T sh : List (List Nat)} {t : List Nat} {z : Array Value} {e : Ending} (h0 : Below u.heap.size u w8) (hr : u.heap.size ≤ r) (hr8 : w8.heap[r]? = some (.cells z 34 (0, 0)))
    (hm : SumTo w8 b g S T sh t e w9) (hsub : ∀ k, S k → k < u.heap.size) : w9.heap[r]? = some (.cells z 34 (0, 0)) ∧ SumTo u b g S T sh t (.returned (.agg (digA t))) (w9.setRow r (digA t)) := by
  obtain ⟨_, ht, hb⟩ := hm
  have hlt := blk_lt hr8
  have hsz : (w9.setRow r (digA t)).heap.size = w9.heap.size := by simp [World.setRow]
  have ho : ∀ j, j ≠ r → (w9.setRow r (digA t)).heap[j]? = w9.heap[j]? := fun j hj => setRow_other w9 r j _ (fun e => hj e)
  have hz := ht.size
  have hz0 := h0.size
  refine ⟨(ht.block r hlt (fun q => by have := hsub _ q; omega)).trans hr8, rfl, ⟨ht.os.trans h0.os, ht.tape.trans h0.tape, ht.output.trans h0.output, by omega, fun j hj hn => (ho j (by omega)).trans ((ht.block j (by omega) hn).trans (h0.block j hj))⟩, ?_⟩
  refine hb.keep (fun j hj => ho j (fun e => ?_)) (fun j hj => ?_) (fun k hk => ?_)
  · subst e
    rcases hj with hj | hj
    · have := hsub _ hj; omega
    · omega
  · rcases hj with hj | hj
    · exact .inl hj
    · exact .inr ⟨by omega, by omega⟩
  · rcases hk with hk | hk
    · have := hsub k hk; omega
    · exact hk.2
theorem wp_boxTo {P : Program} {o : Oper} {a : Act} {w : World} {K : Act → World → Prop} {Q : Exit → Act → World → Prop} (t : TypeId) (x : Operand) (ho : o.op = .box t x) (N : Nat) (hN : w.heap.size = N) (cells : Array Value) (hx : (a.eval x).cells = cells)
    (h : K (a.put o.dst (.pointer (some ⟨N, 0, none⟩))) (w.alloc (.cells cells t))) : Oper.wp P o a w K Q := by
  subst hN hx
  unfold Oper.wp execOp
  simp only [ho, Sem.run_bind, Instr.box, newVar, newRow, run_newObj_alloc, Sem.run_pure, Result.andThen_ok]
  exact h
theorem whole_dig (b o : Nat) (w : World) : (Instr.sliceAt 34 (.pointer (some ⟨b, o, none⟩)) none none none).run Tryz.prog w = .ok (.slice (some ⟨b, o, none⟩) 32 32) w :=
  run_whole_arr 34 5 32 Tryz.underlying34 (by kernel_rfl) b o w
theorem whole_d32 (b o : Nat) (w : World) : (Instr.sliceAt 33 (.pointer (some ⟨b, o, none⟩)) none none none).run Tryz.prog w = .ok (.slice (some ⟨b, o, none⟩) 32 32) w :=
  run_whole_arr 33 5 32 Tryz.underlying33 (by kernel_rfl) b o w
theorem wrap_k {k : Nat} (h : k < 2 ^ 63) : IntKind.u64.wrap (k : Int) = (k : Int) := IntWalk.u64_in _ (by omega)
theorem putL_eq4 (k : Nat) : (putL 4 k).length = 4 := putL_len 4 k
theorem putL_eq1 (k : Nat) : (putL 1 k).length = 1 := putL_len 1 k
theorem flat2 {x y : List Nat} {n : Nat} (hx : x.length = 4) (hy : y.length = n) (hn : n ≤ 100000) : ([x, y] : List (List Nat)).flatten.length ≤ 800000 := by simp; omega
end
section
open Go.RowKit Go
set_option linter.unusedVariables false
set_option linter.unusedSimpArgs false
set_option maxHeartbeats 2000000 in
set_option maxRecDepth 100000 in
theorem troot_any (b g n : Nat) (d : List Nat) (S : Nat → Prop) (T sh : List (List Nat)) (u : World) (h : IsBook u b g S T sh) (hk : n < 4294967296) (hd : IsDig d) :
    Calls Tryz.prog 23 #[.pointer (some ⟨b, 0, none⟩), .int .i64 (n : Int), .agg (dA d)] u (SumTo u b g S T sh (txt 2 [putL 4 n, d])) := by
  have hz := zero_dig
  obtain ⟨da, hda⟩ : ∃ da, da = digA (txt 2 [putL 4 n, d]) := ⟨_, rfl⟩
  have hda2 : da.size = 32 := by rw [hda]; unfold digA; rw [rowV_size]
  have HIA := Lib.hid (info_dig hda2)
  have HO : Hid (da.all (·.oneCell') = true) := Lib.hid (by rw [hda]; exact one_dig _)
  have HZ : Hid ((zeros 32).size = da.size) := Lib.hid (by rw [hda2]; simp [zeros])
  have HDA := Lib.hid hda
  clear hda hda2
  have hwh := whole_dig
  have hcv := wrap_k (k := n) (by omega)
  have HSUB : Hid (∀ j, S j → j < u.heap.size) := Lib.hid (fun j hj => h.sub hj)
  have HBK := Lib.hid h
  clear h
  have HD := Lib.hid hd
  obtain ⟨xd, hxd⟩ : ∃ x, x = dA d := ⟨_, rfl⟩
  rw [← hxd]
  have h1 := heap_alloc_new u (.cells xd 34)
  have h2 := heap_alloc_new (u.alloc (.cells xd 34)) (.cells (zeros 32) 34)
  have hs1 : (u.alloc (.cells xd 34)).heap.size = u.heap.size + 1 := by simp
  rw [hs1] at h2
  obtain ⟨W0, hW0⟩ : ∃ W0, W0 = (u.alloc (.cells xd 34)).alloc (.cells (zeros 32) 34) := ⟨_, rfl⟩
  have HB0 : Hid (Below u.heap.size u W0) := Lib.hid (by rw [hW0]; exact ((Below.refl _ _).alloc (Nat.le_refl _) _).alloc (by simp) _)
  have HS0 : Hid (W0.heap.size = u.heap.size + 2) := Lib.hid (by rw [hW0]; simp)
  have HP0 : Hid (W0.heap[u.heap.size]? = some (.cells (dA d) 34 (0, 0))) := Lib.hid (by rw [hW0, ← hxd]; exact blk_alloc h1 _)
  have HR0 : Hid (W0.heap[u.heap.size + 1]? = some (.cells (zeros 32) 34 (0, 0))) := Lib.hid (by rw [hW0]; exact h2)
  have HW0 := Lib.hid hW0
  clear h1 h2 hs1 hW0 hxd hd
  go_enter Tryz.func23, Tryz.ntmps23
  go_upto_region 1 with (with_reducible refine Go.Great.wpList_boxTo rfl 34 (.tmp 2) rfl (some 5) rfl (u.heap.size) (by simp) xd rfl ?_)
  rw [← HW0.out]
  refine wp_region_F (S := (fun _ => True)) [] (by kernel_rfl) (trivial) (fun hHeld => ?_)
  refine wpAnyF_take (i := 0) (oi := _) (v := ?_) rfl (by kernel_rfl) (by kernel_rfl) (by kernel_rfl) (by kernel_rfl) (fun _ _ _ h => h) (Or.inl ⟨by rfl, ?_⟩) (by assumption) ?_
  rotate_left 1
  · intro w hSw
    (try dsimp only at hSw)
    (first | (go_simp; done) | (go_simp; with_reducible rfl))
  (try simp only [Act.put, List.getElem_toArray, List.getElem_cons_succ, List.getElem_cons_zero, List.setIfInBounds_toArray, List.set_cons_zero, List.set_cons_succ])
  refine wpAnyF_take (i := 1) (oi := _) (v := ?_) rfl (by kernel_rfl) (by kernel_rfl) (by kernel_rfl) (by kernel_rfl) (fun _ _ _ h => h) (Or.inl ⟨by rfl, ?_⟩) (by assumption) ?_
  rotate_left 1
  · intro w hSw
    (try dsimp only at hSw)
    (first | (go_simp; done) | (go_simp; with_reducible rfl))
  (try simp only [Act.put, List.getElem_toArray, List.getElem_cons_succ, List.getElem_cons_zero, List.setIfInBounds_toArray, List.set_cons_zero, List.set_cons_succ])
  refine wpAnyF_take (i := 2) (oi := _) (v := ?_) rfl (by kernel_rfl) (by kernel_rfl) (by kernel_rfl) (by kernel_rfl) (fun _ _ _ h => h) (Or.inl ⟨by rfl, ?_⟩) (by assumption) ?_
  rotate_left 1
  · intro w hSw
    (try dsimp only at hSw)
    (first | (go_simp; done) | (go_simp; with_reducible rfl))
  (try simp only [Act.put, List.getElem_toArray, List.getElem_cons_succ, List.getElem_cons_zero, List.setIfInBounds_toArray, List.set_cons_zero, List.set_cons_succ])
  refine wpAnyF_take (i := 4) (oi := _) (v := ?_) rfl (by kernel_rfl) (by kernel_rfl) (by kernel_rfl) (by kernel_rfl) (fun _ _ _ h => h) (Or.inl ⟨by rfl, ?_⟩) (by assumption) ?_
  rotate_left 1
  · intro w hSw
    (try dsimp only at hSw)
    (first | (go_simp; done) | (go_simp; with_reducible rfl))
  (try simp only [Act.put, List.getElem_toArray, List.getElem_cons_succ, List.getElem_cons_zero, List.setIfInBounds_toArray, List.set_cons_zero, List.set_cons_succ])
  refine wpAnyF_ready (rs := [3]) (by kernel_rfl) (by simp) ?_
  refine AllReadyF.cons (o := _) rfl (fun K hK => ?_) AllReadyF.nil
  go_simp
  refine (put_yes 4 n (by omega) (by omega) (by omega) _).mono ?_
  rintro e w1 ⟨A1, c1, rfl, hb2, hs1⟩
  rw [putL_eq4] at hs1 ⊢
  obtain ⟨w2, hw2⟩ : ∃ w2, w2 = w1.alloc (.cells #[.slice A1 4 c1, .slice (some ⟨u.heap.size, 0, none⟩) 32 32] 89) := ⟨_, rfl⟩
  have hb1 : Below W0.heap.size W0 w1 := ((Below.refl _ _).drew).trans hb2
  have hb4 : Below w1.heap.size w1 w2 := by rw [hw2]; exact (Below.refl _ _).alloc (Nat.le_refl _) _
  have hb5 : Below W0.heap.size W0 w2 := hb1.trans (hb4.mono hb1.size)
  have HB3 : Hid (Below u.heap.size u w2) := Lib.hid (HB0.out.trans (hb5.mono HB0.out.size))
  have hp2 := (hb5.block _ (blk_lt HP0.out)).trans HP0.out
  have hpt : PtsZ w2 (.slice (some ⟨w1.heap.size, 0, none⟩) 2 2) [putL 4 n, d] := pts_two (by rw [hw2]; exact heap_alloc_new w1 _) ((hs1.below hb4).more hb4.size) (bs_dig hp2 HD.out) (bs_some hs1 (by omega)) (fun q => by cases q)
  have HPT := Lib.hid hpt.pts
  have HW2 := Lib.hid hw2
  have HX2 : Hid (w2.heap[u.heap.size + 1]? = some (.cells (zeros 32) 34 (0, 0))) := Lib.hid ((hb5.block _ (blk_lt HR0.out)).trans HR0.out)
  clear hb1 hb2 hs1 hb4 hb5 hp2 hpt hw2
  refine hK.out _ _ (trivial) (fun hHeld1 => ?_)
  clear hK K
  (try simp only [Act.put, List.getElem_toArray, List.getElem_cons_succ, List.getElem_cons_zero, List.setIfInBounds_toArray, List.set_cons_zero, List.set_cons_succ])
  refine wpAnyF_ready (rs := [5]) (by kernel_rfl) (by simp) ?_
  refine AllReadyF.cons (o := _) rfl (fun K hK => ?_) AllReadyF.nil
  go_simp
  refine hK.out _ _ (trivial) (fun hHeld2 => ?_)
  clear hK K
  (try simp only [Act.put, List.getElem_toArray, List.getElem_cons_succ, List.getElem_cons_zero, List.setIfInBounds_toArray, List.set_cons_zero, List.set_cons_succ])
  refine wpAnyF_ready (rs := [6]) (by kernel_rfl) (by simp) ?_
  refine AllReadyF.cons (o := _) rfl (fun K hK => ?_) AllReadyF.nil
  go_simp
  rw [← HW2.out]
  refine (bk_sum b g 2 S T sh _ _ w2 (HBK.out.below HB3.out) (by omega) HPT.out (by simp) (flat2 (putL_eq4 n) HD.out.1 (by omega))).mono ?_
  intro e w9 hsum
  have he := hsum.1
  obtain ⟨hx9, hse⟩ := sum_last HB3.out (by omega) HX2.out hsum HSUB.out
  subst he
  rw [← HDA.out] at hse ⊢
  have HX9 := Lib.hid hx9
  have HSE := Lib.hid hse
  have HFX := Lib.hid (setRow_heap w9 _ _ da _ _ hx9)
  clear hsum hx9 hse
  refine hK.out _ _ (trivial) (fun hHeld3 => ?_)
  clear hK K
  (try simp only [Act.put, List.getElem_toArray, List.getElem_cons_succ, List.getElem_cons_zero, List.setIfInBounds_toArray, List.set_cons_zero, List.set_cons_succ])
  refine wpAnyF_ready (rs := [7]) (by kernel_rfl) (by simp) ?_
  refine AllReadyF.cons (o := _) rfl (fun K hK => ?_) AllReadyF.nil
  rw [if_pos (by kernel_rfl)]
  refine wp_store_row 34 (.tmp 6) (.tmp 13) rfl (u.heap.size + 1) da rfl rfl 34 (zeros 32) HX9.out HIA.out HZ.out HO.out ?_
  refine hK.out _ _ (trivial) (fun hHeld9 => ?_)
  clear hK K
  (try simp only [Act.put, List.getElem_toArray, List.getElem_cons_succ, List.getElem_cons_zero, List.setIfInBounds_toArray, List.set_cons_zero, List.set_cons_succ])
  refine wpAnyF_done (by kernel_rfl) ?_ _
  (try go_wp2_with fail)
  exact bodyPost_ret (v := .agg da) (results_cell_row rfl _ _ _ 34 _ (0, 0) _ rfl HFX.out Tryz.underlying34 rfl HIA.out) rfl HSE.out
set_option maxHeartbeats 2000000 in
set_option maxRecDepth 100000 in
theorem rtop_any (n : Nat) (d : List Nat) (u : World)  (hk : n < 4294967296) (hd : IsDig d) :
    Calls Tryz.prog 41 #[.int .i64 (n : Int), .agg (dA d)] u (fun e w' => e = .returned (.agg (digA (txt 2 [putL 4 n, d]))) ∧ Below u.heap.size u w') := by
  have hz := zero32
  obtain ⟨da, hda⟩ : ∃ da, da = digA (txt 2 [putL 4 n, d]) := ⟨_, rfl⟩
  have hda2 : da.size = 32 := by rw [hda]; unfold digA; rw [rowV_size]
  have HIA := Lib.hid (info_d32 hda2)
  have HO : Hid (da.all (·.oneCell') = true) := Lib.hid (by rw [hda]; exact one_dig _)
  have HZ : Hid ((zeros 32).size = da.size) := Lib.hid (by rw [hda2]; simp [zeros])
  have HDA := Lib.hid hda
  rw [← hda]
  clear hda hda2
  have hwh := whole_d32
  have hcv := wrap_k (k := n) (by omega)
  have HD := Lib.hid hd
  obtain ⟨xd, hxd⟩ : ∃ x, x = dA d := ⟨_, rfl⟩
  rw [← hxd]
  have h1 := heap_alloc_new u (.cells xd 33)
  have h2 := heap_alloc_new (u.alloc (.cells xd 33)) (.cells (zeros 32) 33)
  have hs1 : (u.alloc (.cells xd 33)).heap.size = u.heap.size + 1 := by simp
  rw [hs1] at h2
  obtain ⟨W0, hW0⟩ : ∃ W0, W0 = (u.alloc (.cells xd 33)).alloc (.cells (zeros 32) 33) := ⟨_, rfl⟩
  have HB0 : Hid (Below u.heap.size u W0) := Lib.hid (by rw [hW0]; exact ((Below.refl _ _).alloc (Nat.le_refl _) _).alloc (by simp) _)
  have HS0 : Hid (W0.heap.size = u.heap.size + 2) := Lib.hid (by rw [hW0]; simp)
  have HP0 : Hid (W0.heap[u.heap.size]? = some (.cells (dA d) 33 (0, 0))) := Lib.hid (by rw [hW0, ← hxd]; exact blk_alloc h1 _)
  have HR0 : Hid (W0.heap[u.heap.size + 1]? = some (.cells (zeros 32) 33 (0, 0))) := Lib.hid (by rw [hW0]; exact h2)
  have HW0 := Lib.hid hW0
  clear h1 h2 hs1 hW0 hxd hd
  go_enter Tryz.func41, Tryz.ntmps41
  go_upto_region 1 with (with_reducible refine Go.Great.wpList_boxTo rfl 33 (.tmp 1) rfl (some 3) rfl (u.heap.size) (by simp) xd rfl ?_)
  rw [← HW0.out]
  refine wp_region_F (S := (fun _ => True)) [] (by kernel_rfl) (trivial) (fun hHeld => ?_)
  refine wpAnyF_take (i := 0) (oi := _) (v := ?_) rfl (by kernel_rfl) (by kernel_rfl) (by kernel_rfl) (by kernel_rfl) (fun _ _ _ h => h) (Or.inl ⟨by rfl, ?_⟩) (by assumption) ?_
  rotate_left 1
  · intro w hSw
    (try dsimp only at hSw)
    (first | (go_simp; done) | (go_simp; with_reducible rfl))
  (try simp only [Act.put, List.getElem_toArray, List.getElem_cons_succ, List.getElem_cons_zero, List.setIfInBounds_toArray, List.set_cons_zero, List.set_cons_succ])
  refine wpAnyF_take (i := 1) (oi := _) (v := ?_) rfl (by kernel_rfl) (by kernel_rfl) (by kernel_rfl) (by kernel_rfl) (fun _ _ _ h => h) (Or.inl ⟨by rfl, ?_⟩) (by assumption) ?_
  rotate_left 1
  · intro w hSw
    (try dsimp only at hSw)
    (first | (go_simp; done) | (go_simp; with_reducible rfl))
  (try simp only [Act.put, List.getElem_toArray, List.getElem_cons_succ, List.getElem_cons_zero, List.setIfInBounds_toArray, List.set_cons_zero, List.set_cons_succ])
  refine wpAnyF_take (i := 3) (oi := _) (v := ?_) rfl (by kernel_rfl) (by kernel_rfl) (by kernel_rfl) (by kernel_rfl) (fun _ _ _ h => h) (Or.inl ⟨by rfl, ?_⟩) (by assumption) ?_
  rotate_left 1
  · intro w hSw
    (try dsimp only at hSw)
    (first | (go_simp; done) | (go_simp; with_reducible rfl))
  (try simp only [Act.put, List.getElem_toArray, List.getElem_cons_succ, List.getElem_cons_zero, List.setIfInBounds_toArray, List.set_cons_zero, List.set_cons_succ])
  refine wpAnyF_ready (rs := [2]) (by kernel_rfl) (by simp) ?_
  refine AllReadyF.cons (o := _) rfl (fun K hK => ?_) AllReadyF.nil
  go_simp
  refine (refPut_yes 4 n (by omega) (by omega) (by omega) _).mono ?_
  rintro e w1 ⟨A1, c1, rfl, hb2, hs1⟩
  rw [putL_eq4] at hs1 ⊢
  obtain ⟨w2, hw2⟩ : ∃ w2, w2 = w1.alloc (.cells #[.slice A1 4 c1, .slice (some ⟨u.heap.size, 0, none⟩) 32 32] 89) := ⟨_, rfl⟩
  have hb1 : Below W0.heap.size W0 w1 := ((Below.refl _ _).drew).trans hb2
  have hb4 : Below w1.heap.size w1 w2 := by rw [hw2]; exact (Below.refl _ _).alloc (Nat.le_refl _) _
  have hb5 : Below W0.heap.size W0 w2 := hb1.trans (hb4.mono hb1.size)
  have HB3 : Hid (Below u.heap.size u w2) := Lib.hid (HB0.out.trans (hb5.mono HB0.out.size))
  have hp2 := (hb5.block _ (blk_lt HP0.out)).trans HP0.out
  have hpt : PtsZ w2 (.slice (some ⟨w1.heap.size, 0, none⟩) 2 2) [putL 4 n, d] := pts_two (by rw [hw2]; exact heap_alloc_new w1 _) ((hs1.below hb4).more hb4.size) (bs_dig hp2 HD.out) (bs_some hs1 (by omega)) (fun q => by cases q)
  have HPT := Lib.hid hpt
  have HW2 := Lib.hid hw2
  have HX2 : Hid (w2.heap[u.heap.size + 1]? = some (.cells (zeros 32) 33 (0, 0))) := Lib.hid ((hb5.block _ (blk_lt HR0.out)).trans HR0.out)
  clear hb1 hb2 hs1 hb4 hb5 hp2 hpt hw2
  refine hK.out _ _ (trivial) (fun hHeld1 => ?_)
  clear hK K
  (try simp only [Act.put, List.getElem_toArray, List.getElem_cons_succ, List.getElem_cons_zero, List.setIfInBounds_toArray, List.set_cons_zero, List.set_cons_succ])
  refine wpAnyF_ready (rs := [4]) (by kernel_rfl) (by simp) ?_
  refine AllReadyF.cons (o := _) rfl (fun K hK => ?_) AllReadyF.nil
  go_simp
  refine hK.out _ _ (trivial) (fun hHeld2 => ?_)
  clear hK K
  (try simp only [Act.put, List.getElem_toArray, List.getElem_cons_succ, List.getElem_cons_zero, List.setIfInBounds_toArray, List.set_cons_zero, List.set_cons_succ])
  refine wpAnyF_ready (rs := [5]) (by kernel_rfl) (by simp) ?_
  refine AllReadyF.cons (o := _) rfl (fun K hK => ?_) AllReadyF.nil
  go_simp
  rw [← HW2.out]
  refine (rsum_any 2 (by omega) _ _ w2 HPT.out (by simp) (flat2 (putL_eq4 n) HD.out.1 (by omega))).mono ?_
  rintro e w9 ⟨rfl, hb9⟩
  rw [← HDA.out]
  have hx9 := (hb9.block _ (blk_lt HX2.out)).trans HX2.out
  have HX9 := Lib.hid hx9
  have HFX := Lib.hid (setRow_heap w9 _ _ da _ _ hx9)
  have HSE : Hid (Below u.heap.size u (w9.setRow (u.heap.size + 1) da)) := Lib.hid (below_setRow (HB3.out.trans (hb9.mono HB3.out.size)) (by omega) da)
  clear hb9 hx9
  refine hK.out _ _ (trivial) (fun hHeld3 => ?_)
  clear hK K
  (try simp only [Act.put, List.getElem_toArray, List.getElem_cons_succ, List.getElem_cons_zero, List.setIfInBounds_toArray, List.set_cons_zero, List.set_cons_succ])
  refine wpAnyF_ready (rs := [6]) (by kernel_rfl) (by simp) ?_
  refine AllReadyF.cons (o := _) rfl (fun K hK => ?_) AllReadyF.nil
  rw [if_pos (by kernel_rfl)]
  refine wp_store_row 33 (.tmp 4) (.tmp 10) rfl (u.heap.size + 1) da rfl rfl 33 (zeros 32) HX9.out HIA.out HZ.out HO.out ?_
  refine hK.out _ _ (trivial) (fun hHeld9 => ?_)
  clear hK K
  (try simp only [Act.put, List.getElem_toArray, List.getElem_cons_succ, List.getElem_cons_zero, List.setIfInBounds_toArray, List.set_cons_zero, List.set_cons_succ])
  refine wpAnyF_done (by kernel_rfl) ?_ _
  (try go_wp2_with fail)
  exact bodyPost_ret (v := .agg da) (results_cell_row rfl _ _ _ 33 _ (0, 0) _ rfl HFX.out Tryz.underlying33 rfl HIA.out) rfl ⟨rfl, HSE.out⟩
end
section
open Go.RowKit Go
set_option linter.unusedVariables false
set_option linter.unusedSimpArgs false
theorem yields_cellP {P : Program} {ops : Array Oper} {S : World → Prop} {o : Oper} {a : Act} (hw : Region.wanted o (yielded ops a.tmps) = true) (ty : TypeId) (x : Operand) (ho : o.op = .load ty x) (b off : Nat) (hx : a.eval x = .pointer (some ⟨b, off, none⟩)) (v : Value) (d : TypeDesc)
    (hS : ∀ w, S w → w.cell? ⟨b, off, none⟩ = some v) (hu : P.underlying ty = some d) (hd : d.isRow = false) : YieldsIf P ops S o v a :=
  .inl ⟨hw, fun w h => by
    unfold execOp
    simp only [ho, hx, Instr.loadAt, Instr.sureAddr, Sem.run_bind, Sem.run_pure, Result.andThen_ok, run_loadVar_cell w b off ty d v hu hd (hS w h)]⟩
theorem bs_lv {w w2 : World} {p lv : Nat} {t : TypeId} (h : w.heap[p]? = some (.cells #[.int .u8 (lv : Int)] t (0, 0))) (hb : Below w.heap.size w w2) (hl : lv < 256) : BS w2 w2.heap.size (some ⟨p, 0, none⟩) 1 1 [lv] := by
  have h2 := (hb.block _ (blk_lt h)).trans h
  refine BS.of_blk h2 (blk_lt h2) rfl (Nat.le_refl _) (by omega) (fun i => ?_) (fun i hi => ?_)
  · cases i with
    | zero => exact hl
    | succ i => simp
  · obtain rfl : i = 0 := by omega
    rfl
set_option maxHeartbeats 2000000 in
set_option maxRecDepth 100000 in
theorem psum_any (b g lv i : Nat) (x y : List Nat) (S : Nat → Prop) (T sh : List (List Nat)) (u : World) (h : IsBook u b g S T sh) (hlv : lv < 256) (hi : i < 4294967296) (hx : IsDig x) (hy : IsDig y) :
    Calls Tryz.prog 52 #[.agg #[.int .i64 (lv : Int), .int .i64 (i : Int)], .pointer (some ⟨b, 0, none⟩), .agg (dA x), .agg (dA y)] u (SumTo u b g S T sh (txt 1 [putL 1 lv, putL 4 i, x, y])) := by
  have hz := zero_dig
  obtain ⟨da, hda⟩ : ∃ da, da = digA (txt 1 [putL 1 lv, putL 4 i, x, y]) := ⟨_, rfl⟩
  have hda2 : da.size = 32 := by rw [hda]; unfold digA; rw [rowV_size]
  have HIA := Lib.hid (info_dig hda2)
  have HO : Hid (da.all (·.oneCell') = true) := Lib.hid (by rw [hda]; exact one_dig _)
  have HZ : Hid ((zeros 32).size = da.size) := Lib.hid (by rw [hda2]; simp [zeros])
  have HDA := Lib.hid hda
  clear hda hda2
  have hwh := whole_dig
  have hcv := wrap_k (k := i) (by omega)
  have hcv1 := wrap_k (k := lv) (by omega)
  have HSUB : Hid (∀ j, S j → j < u.heap.size) := Lib.hid (fun j hj => h.sub hj)
  have HBK := Lib.hid h
  clear h
  have HDX := Lib.hid hx
  have HDY := Lib.hid hy
  obtain ⟨xd, hxd⟩ : ∃ z, z = dA x := ⟨_, rfl⟩
  obtain ⟨yd, hyd⟩ : ∃ z, z = dA y := ⟨_, rfl⟩
  have HXD := Lib.hid hxd
  have HYD := Lib.hid hyd
  rw [← hxd, ← hyd]
  have q0 := heap_alloc_new (u) (.cells #[.int .i64 (lv : Int), .int .i64 (i : Int)] 61)
  have q1 := heap_alloc_new (u.alloc (.cells #[.int .i64 (lv : Int), .int .i64 (i : Int)] 61)) (.cells xd 34)
  have q2 := heap_alloc_new ((u.alloc (.cells #[.int .i64 (lv : Int), .int .i64 (i : Int)] 61)).alloc (.cells xd 34)) (.cells yd 34)
  have q3 := heap_alloc_new (((u.alloc (.cells #[.int .i64 (lv : Int), .int .i64 (i : Int)] 61)).alloc (.cells xd 34)).alloc (.cells yd 34)) (.cells (zeros 32) 34)
  rw [show (u.alloc (.cells #[.int .i64 (lv : Int), .int .i64 (i : Int)] 61)).heap.size = u.heap.size + 1 by simp] at q1
  rw [show ((u.alloc (.cells #[.int .i64 (lv : Int), .int .i64 (i : Int)] 61)).alloc (.cells xd 34)).heap.size = u.heap.size + 2 by simp] at q2
  rw [show (((u.alloc (.cells #[.int .i64 (lv : Int), .int .i64 (i : Int)] 61)).alloc (.cells xd 34)).alloc (.cells yd 34)).heap.size = u.heap.size + 3 by simp] at q3
  obtain ⟨W0, hW0⟩ : ∃ W0, W0 = (((u.alloc (.cells #[.int .i64 (lv : Int), .int .i64 (i : Int)] 61)).alloc (.cells xd 34)).alloc (.cells yd 34)).alloc (.cells (zeros 32) 34) := ⟨_, rfl⟩
  have HB0 : Hid (Below u.heap.size u W0) := Lib.hid (by rw [hW0]; exact (((((Below.refl _ _).alloc (by first | exact Nat.le_refl _ | (simp; done) | (simp; omega)) _).alloc (by first | exact Nat.le_refl _ | (simp; done) | (simp; omega)) _).alloc (by first | exact Nat.le_refl _ | (simp; done) | (simp; omega)) _).alloc (by first | exact Nat.le_refl _ | (simp; done) | (simp; omega)) _))
  have HS0 : Hid (W0.heap.size = u.heap.size + 4) := Lib.hid (by rw [hW0]; simp)
  have HPL : Hid (W0.heap[u.heap.size]? = some (.cells #[.int .i64 (lv : Int), .int .i64 (i : Int)] 61 (0, 0))) := Lib.hid (by rw [hW0]; exact blk_alloc (blk_alloc (blk_alloc (q0) _) _) _)
  have HX0 : Hid (W0.heap[u.heap.size + 1]? = some (.cells xd 34 (0, 0))) := Lib.hid (by rw [hW0]; exact blk_alloc (blk_alloc (q1) _) _)
  have HY0 : Hid (W0.heap[u.heap.size + 2]? = some (.cells yd 34 (0, 0))) := Lib.hid (by rw [hW0]; exact blk_alloc (q2) _)
  have HR0 : Hid (W0.heap[u.heap.size + 3]? = some (.cells (zeros 32) 34 (0, 0))) := Lib.hid (by rw [hW0]; exact q3)
  have HW0 := Lib.hid hW0
  clear hW0 q0 q1 q2 q3
  clear hxd hyd hx hy
  go_enter Tryz.func52, Tryz.ntmps52
  go_upto_region 1 with (first
    | (with_reducible refine Go.Great.wpList_boxTo rfl 34 (.tmp 2) rfl (some 6) rfl (u.heap.size + 1) (by simp) xd rfl ?_)
    | (with_reducible refine Go.Great.wpList_boxTo rfl 34 (.tmp 3) rfl (some 7) rfl (u.heap.size + 2) (by simp) yd rfl ?_))
  rw [← HW0.out]
  refine wp_region_F (S := (fun W : World => W.heap[u.heap.size]? = some (.cells #[.int .i64 (lv : Int), .int .i64 (i : Int)] 61 (0, 0)))) [] (by kernel_rfl) (HPL.out) (fun hHeld => ?_)
  refine wpAnyF_take (i := 0) (oi := _) (v := ?_) rfl (by kernel_rfl) (by kernel_rfl) (by kernel_rfl) (by kernel_rfl) (fun _ _ _ h => h) (Or.inl ⟨by rfl, ?_⟩) (by assumption) ?_
  rotate_left 1
  · intro w hSw
    (try dsimp only at hSw)
    (first | (go_simp; done) | (go_simp; with_reducible rfl))
  (try simp only [Act.put, List.getElem_toArray, List.getElem_cons_succ, List.getElem_cons_zero, List.setIfInBounds_toArray, List.set_cons_zero, List.set_cons_succ])
  refine wpAnyF_take (i := 1) (oi := _) (v := ?_) rfl (by kernel_rfl) (by kernel_rfl) (by kernel_rfl) (by kernel_rfl) (fun _ _ _ h => h) (Or.inl ⟨by rfl, ?_⟩) (by assumption) ?_
  rotate_left 1
  · intro w hSw
    (try dsimp only at hSw)
    (first | (go_simp; done) | (go_simp; with_reducible rfl))
  (try simp only [Act.put, List.getElem_toArray, List.getElem_cons_succ, List.getElem_cons_zero, List.setIfInBounds_toArray, List.set_cons_zero, List.set_cons_succ])
  refine wpAnyF_take (i := 2) (oi := _) (v := _) rfl (by kernel_rfl) (by kernel_rfl) (by kernel_rfl) (by kernel_rfl) (fun _ _ _ h => h) (yields_cellP (by rfl) 3 (.tmp 10) rfl (u.heap.size) 0 rfl (.int .i64 (lv : Int)) _ (fun W h => blk_cell h 0) Tryz.underlying3 rfl) (by assumption) ?_
  (try simp only [Act.put, List.getElem_toArray, List.getElem_cons_succ, List.getElem_cons_zero, List.setIfInBounds_toArray, List.set_cons_zero, List.set_cons_succ])
  refine wpAnyF_take (i := 3) (oi := _) (v := ?_) rfl (by kernel_rfl) (by kernel_rfl) (by kernel_rfl) (by kernel_rfl) (fun _ _ _ h => h) (Or.inl ⟨by rfl, ?_⟩) (by assumption) ?_
  rotate_left 1
  · intro w hSw
    (try dsimp only at hSw)
    (first | (go_simp; done) | (go_simp; with_reducible rfl))
  (try simp only [Act.put, List.getElem_toArray, List.getElem_cons_succ, List.getElem_cons_zero, List.setIfInBounds_toArray, List.set_cons_zero, List.set_cons_succ])
  refine wpAnyF_take (i := 5) (oi := _) (v := ?_) rfl (by kernel_rfl) (by kernel_rfl) (by kernel_rfl) (by kernel_rfl) (fun _ _ _ h => h) (Or.inl ⟨by rfl, ?_⟩) (by assumption) ?_
  rotate_left 1
  · intro w hSw
    (try dsimp only at hSw)
    (first | (go_simp; done) | (go_simp; with_reducible rfl))
  (try simp only [Act.put, List.getElem_toArray, List.getElem_cons_succ, List.getElem_cons_zero, List.setIfInBounds_toArray, List.set_cons_zero, List.set_cons_succ])
  refine wpAnyF_take (i := 6) (oi := _) (v := _) rfl (by kernel_rfl) (by kernel_rfl) (by kernel_rfl) (by kernel_rfl) (fun _ _ _ h => h) (yields_cellP (by rfl) 3 (.tmp 14) rfl (u.heap.size) 1 rfl (.int .i64 (i : Int)) _ (fun W h => blk_cell h 1) Tryz.underlying3 rfl) (by assumption) ?_
  (try simp only [Act.put, List.getElem_toArray, List.getElem_cons_succ, List.getElem_cons_zero, List.setIfInBounds_toArray, List.set_cons_zero, List.set_cons_succ])
  refine wpAnyF_take (i := 7) (oi := _) (v := ?_) rfl (by kernel_rfl) (by kernel_rfl) (by kernel_rfl) (by kernel_rfl) (fun _ _ _ h => h) (Or.inl ⟨by rfl, ?_⟩) (by assumption) ?_
  rotate_left 1
  · intro w hSw
    (try dsimp only at hSw)
    (first | (go_simp; done) | (go_simp; with_reducible rfl))
  (try simp only [Act.put, List.getElem_toArray, List.getElem_cons_succ, List.getElem_cons_zero, List.setIfInBounds_toArray, List.set_cons_zero, List.set_cons_succ])
  refine wpAnyF_take (i := 9) (oi := _) (v := ?_) rfl (by kernel_rfl) (by kernel_rfl) (by kernel_rfl) (by kernel_rfl) (fun _ _ _ h => h) (Or.inl ⟨by rfl, ?_⟩) (by assumption) ?_
  rotate_left 1
  · intro w hSw
    (try dsimp only at hSw)
    (first | (go_simp; done) | (go_simp; with_reducible rfl))
  (try simp only [Act.put, List.getElem_toArray, List.getElem_cons_succ, List.getElem_cons_zero, List.setIfInBounds_toArray, List.set_cons_zero, List.set_cons_succ])
  refine wpAnyF_take (i := 10) (oi := _) (v := ?_) rfl (by kernel_rfl) (by kernel_rfl) (by kernel_rfl) (by kernel_rfl) (fun _ _ _ h => h) (Or.inl ⟨by rfl, ?_⟩) (by assumption) ?_
  rotate_left 1
  · intro w hSw
    (try dsimp only at hSw)
    (first | (go_simp; done) | (go_simp; with_reducible rfl))
  (try simp only [Act.put, List.getElem_toArray, List.getElem_cons_succ, List.getElem_cons_zero, List.setIfInBounds_toArray, List.set_cons_zero, List.set_cons_succ])
  refine wpAnyF_ready (rs := [4]) (by kernel_rfl) (by simp) ?_
  refine AllReadyF.cons (o := _) rfl (fun K hK => ?_) AllReadyF.nil
  go_simp
  refine (put_yes 1 lv (by omega) (by omega) (by omega) _).mono ?_
  rintro e w1 ⟨A1, c1, rfl, hb1, hs1⟩
  rw [putL_eq1] at hs1 ⊢
  have HB1 : Hid (Below W0.heap.size W0 w1) := Lib.hid (((Below.refl _ _).drew).trans hb1)
  have HS1 := Lib.hid hs1
  clear hb1 hs1
  refine hK.out _ _ ((HB1.out.block _ (blk_lt HPL.out)).trans HPL.out) (fun hHeld1 => ?_)
  clear hK K
  (try simp only [Act.put, List.getElem_toArray, List.getElem_cons_succ, List.getElem_cons_zero, List.setIfInBounds_toArray, List.set_cons_zero, List.set_cons_succ])
  refine wpAnyF_ready (rs := [8]) (by kernel_rfl) (by simp) ?_
  refine AllReadyF.cons (o := _) rfl (fun K hK => ?_) AllReadyF.nil
  go_simp
  refine (put_yes 4 i (by omega) (by omega) (by omega) _).mono ?_
  rintro e w4 ⟨A4, c4, rfl, hb4, hs4⟩
  rw [putL_eq4] at hs4 ⊢
  obtain ⟨w2, hw2⟩ : ∃ w2, w2 = w4.alloc (.cells #[.slice A1 1 c1, .slice A4 4 c4, .slice (some ⟨u.heap.size + 1, 0, none⟩) 32 32, .slice (some ⟨u.heap.size + 2, 0, none⟩) 32 32] 89) := ⟨_, rfl⟩
  have hb6 : Below w4.heap.size w4 w2 := by rw [hw2]; exact (Below.refl _ _).alloc (Nat.le_refl _) _
  have hb7 : Below w1.heap.size w1 w2 := hb4.trans (hb6.mono hb4.size)
  have hb5 : Below W0.heap.size W0 w2 := HB1.out.trans (hb7.mono HB1.out.size)
  have hb8 : Below W0.heap.size W0 w4 := HB1.out.trans (hb4.mono HB1.out.size)
  have hx9 := (hb5.block _ (blk_lt HX0.out)).trans HX0.out
  have hy9 := (hb5.block _ (blk_lt HY0.out)).trans HY0.out
  rw [HXD.out] at hx9
  rw [HYD.out] at hy9
  have hpt : PtsZ w2 (.slice (some ⟨w4.heap.size, 0, none⟩) 4 4) [putL 1 lv, putL 4 i, x, y] := pts_four (by rw [hw2]; exact heap_alloc_new w4 _) ((HS1.out.below hb7).more hb7.size) ((hs4.below hb6).more hb6.size) (bs_dig hx9 HDX.out) (bs_dig hy9 HDY.out) (bs_some HS1.out (by omega)) (bs_some hs4 (by omega)) (fun q => by cases q) (fun q => by cases q)
  have HPT := Lib.hid hpt.pts
  have HW2 := Lib.hid hw2
  have HX2 : Hid (w2.heap[u.heap.size + 3]? = some (.cells (zeros 32) 34 (0, 0))) := Lib.hid ((hb5.block _ (blk_lt HR0.out)).trans HR0.out)
  have HB3 : Hid (Below u.heap.size u w2) := Lib.hid (HB0.out.trans (hb5.mono HB0.out.size))
  have HP4 := Lib.hid ((hb8.block _ (blk_lt HPL.out)).trans HPL.out)
  have HP2 := Lib.hid ((hb5.block _ (blk_lt HPL.out)).trans HPL.out)
  clear hb4 hs4 hb6 hb7 hb5 hb8 hx9 hy9 hpt hw2
  refine hK.out _ _ (HP4.out) (fun hHeld2 => ?_)
  clear hK K
  (try simp only [Act.put, List.getElem_toArray, List.getElem_cons_succ, List.getElem_cons_zero, List.setIfInBounds_toArray, List.set_cons_zero, List.set_cons_succ])
  refine wpAnyF_ready (rs := [11]) (by kernel_rfl) (by simp) ?_
  refine AllReadyF.cons (o := _) rfl (fun K hK => ?_) AllReadyF.nil
  go_simp
  refine hK.out _ _ ((by rw [← HW2.out]; exact HP2.out)) (fun hHeld3 => ?_)
  clear hK K
  (try simp only [Act.put, List.getElem_toArray, List.getElem_cons_succ, List.getElem_cons_zero, List.setIfInBounds_toArray, List.set_cons_zero, List.set_cons_succ])
  refine wpAnyF_ready (rs := [12]) (by kernel_rfl) (by simp) ?_
  refine AllReadyF.cons (o := _) rfl (fun K hK => ?_) AllReadyF.nil
  go_simp
  rw [← HW2.out]
  refine (bk_sum b g 1 S T sh _ _ w2 (HBK.out.below HB3.out) (by omega) HPT.out (by simp) (by simp; have h1 := putL_eq4 i; have h2 := HDX.out.1; have h3 := HDY.out.1; (try have h4 := putL_eq1 lv); omega)).mono ?_
  intro e w9 hsum
  have he := hsum.1
  have HT9 := Lib.hid hsum.2.1
  obtain ⟨hx9, hse⟩ := sum_last HB3.out (by omega) HX2.out hsum HSUB.out
  subst he
  rw [← HDA.out] at hse ⊢
  have HX9 := Lib.hid hx9
  have HSE := Lib.hid hse
  have HFX := Lib.hid (setRow_heap w9 _ _ da _ _ hx9)
  clear hsum hx9 hse
  have HP9 : Hid (w9.heap[u.heap.size]? = some (.cells #[.int .i64 (lv : Int), .int .i64 (i : Int)] 61 (0, 0))) := Lib.hid ((HT9.out.block _ (blk_lt HP2.out) (fun q => by have := HSUB.out _ q; omega)).trans HP2.out)
  refine hK.out _ _ (HP9.out) (fun hHeld4 => ?_)
  clear hK K
  (try simp only [Act.put, List.getElem_toArray, List.getElem_cons_succ, List.getElem_cons_zero, List.setIfInBounds_toArray, List.set_cons_zero, List.set_cons_succ])
  refine wpAnyF_ready (rs := [13]) (by kernel_rfl) (by simp) ?_
  refine AllReadyF.cons (o := _) rfl (fun K hK => ?_) AllReadyF.nil
  rw [if_pos (by kernel_rfl)]
  refine wp_store_row 34 (.tmp 8) (.tmp 21) rfl (u.heap.size + 3) da rfl rfl 34 (zeros 32) HX9.out HIA.out HZ.out HO.out ?_
  refine hK.out _ _ ((setRow_other w9 _ _ _ (by omega)).trans HP9.out) (fun hHeld9 => ?_)
  clear hK K
  (try simp only [Act.put, List.getElem_toArray, List.getElem_cons_succ, List.getElem_cons_zero, List.setIfInBounds_toArray, List.set_cons_zero, List.set_cons_succ])
  refine wpAnyF_done (by kernel_rfl) ?_ _
  (try go_wp2_with fail)
  exact bodyPost_ret (v := .agg da) (results_cell_row rfl _ _ _ 34 _ (0, 0) _ rfl HFX.out Tryz.underlying34 rfl HIA.out) rfl HSE.out
set_option maxHeartbeats 2000000 in
set_option maxRecDepth 100000 in
theorem rnode_any (lv i : Nat) (x y : List Nat) (u : World)  (hlv : lv < 256) (hi : i < 4294967296) (hx : IsDig x) (hy : IsDig y) :
    Calls Tryz.prog 60 #[.int .i64 (lv : Int), .int .i64 (i : Int), .agg (dA x), .agg (dA y)] u (fun e w' => e = .returned (.agg (digA (txt 1 [[lv], putL 4 i, x, y]))) ∧ Below u.heap.size u w') := by
  have hz := zero32
  obtain ⟨da, hda⟩ : ∃ da, da = digA (txt 1 [[lv], putL 4 i, x, y]) := ⟨_, rfl⟩
  have hda2 : da.size = 32 := by rw [hda]; unfold digA; rw [rowV_size]
  have HIA := Lib.hid (info_d32 hda2)
  have HO : Hid (da.all (·.oneCell') = true) := Lib.hid (by rw [hda]; exact one_dig _)
  have HZ : Hid ((zeros 32).size = da.size) := Lib.hid (by rw [hda2]; simp [zeros])
  have HDA := Lib.hid hda
  rw [← hda]
  clear hda hda2
  have hwh := whole_d32
  have hcv := wrap_k (k := i) (by omega)
  have hcv1 : IntKind.u8.wrap (lv : Int) = (lv : Int) := IntWalk.u8_in _ (by omega)
  have HLV := Lib.hid hlv
  have HDX := Lib.hid hx
  have HDY := Lib.hid hy
  obtain ⟨xd, hxd⟩ : ∃ z, z = dA x := ⟨_, rfl⟩
  obtain ⟨yd, hyd⟩ : ∃ z, z = dA y := ⟨_, rfl⟩
  have HXD := Lib.hid hxd
  have HYD := Lib.hid hyd
  rw [← hxd, ← hyd]
  have q0 := heap_alloc_new (u) (.cells xd 33)
  have q1 := heap_alloc_new (u.alloc (.cells xd 33)) (.cells yd 33)
  have q2 := heap_alloc_new ((u.alloc (.cells xd 33)).alloc (.cells yd 33)) (.cells (zeros 32) 33)
  rw [show (u.alloc (.cells xd 33)).heap.size = u.heap.size + 1 by simp] at q1
  rw [show ((u.alloc (.cells xd 33)).alloc (.cells yd 33)).heap.size = u.heap.size + 2 by simp] at q2
  obtain ⟨W0, hW0⟩ : ∃ W0, W0 = ((u.alloc (.cells xd 33)).alloc (.cells yd 33)).alloc (.cells (zeros 32) 33) := ⟨_, rfl⟩
  have HB0 : Hid (Below u.heap.size u W0) := Lib.hid (by rw [hW0]; exact ((((Below.refl _ _).alloc (by first | exact Nat.le_refl _ | (simp; done) | (simp; omega)) _).alloc (by first | exact Nat.le_refl _ | (simp; done) | (simp; omega)) _).alloc (by first | exact Nat.le_refl _ | (simp; done) | (simp; omega)) _))
  have HS0 : Hid (W0.heap.size = u.heap.size + 3) := Lib.hid (by rw [hW0]; simp)
  have HX0 : Hid (W0.heap[u.heap.size]? = some (.cells xd 33 (0, 0))) := Lib.hid (by rw [hW0]; exact blk_alloc (blk_alloc (q0) _) _)
  have HY0 : Hid (W0.heap[u.heap.size + 1]? = some (.cells yd 33 (0, 0))) := Lib.hid (by rw [hW0]; exact blk_alloc (q1) _)
  have HR0 : Hid (W0.heap[u.heap.size + 2]? = some (.cells (zeros 32) 33 (0, 0))) := Lib.hid (by rw [hW0]; exact q2)
  have HW0 := Lib.hid hW0
  clear hW0 q0 q1 q2
  clear hxd hyd hx hy
  go_enter Tryz.func60, Tryz.ntmps60
  go_upto_region 1 with (first
    | (with_reducible refine Go.Great.wpList_boxTo rfl 33 (.tmp 2) rfl (some 6) rfl (u.heap.size) (by simp) xd rfl ?_)
    | (with_reducible refine Go.Great.wpList_boxTo rfl 33 (.tmp 3) rfl (some 7) rfl (u.heap.size + 1) (by simp) yd rfl ?_))
  rw [← HW0.out]
  refine wp_region_F (S := (fun _ => True)) [] (by kernel_rfl) (trivial) (fun hHeld => ?_)
  refine wpAnyF_take (i := 0) (oi := _) (v := ?_) rfl (by kernel_rfl) (by kernel_rfl) (by kernel_rfl) (by kernel_rfl) (fun _ _ _ h => h) (Or.inl ⟨by rfl, ?_⟩) (by assumption) ?_
  rotate_left 1
  · intro w hSw
    (try dsimp only at hSw)
    (first | (go_simp; done) | (go_simp; with_reducible rfl))
  (try simp only [Act.put, List.getElem_toArray, List.getElem_cons_succ, List.getElem_cons_zero, List.setIfInBounds_toArray, List.set_cons_zero, List.set_cons_succ])
  refine wpAnyF_take (i := 1) (oi := _) (v := ?_) rfl (by kernel_rfl) (by kernel_rfl) (by kernel_rfl) (by kernel_rfl) (fun _ _ _ h => h) (Or.inl ⟨by rfl, ?_⟩) (by assumption) ?_
  rotate_left 1
  · intro w hSw
    (try dsimp only at hSw)
    (first | (go_simp; done) | (go_simp; with_reducible rfl))
  (try simp only [Act.put, List.getElem_toArray, List.getElem_cons_succ, List.getElem_cons_zero, List.setIfInBounds_toArray, List.set_cons_zero, List.set_cons_succ])
  refine wpAnyF_take (i := 3) (oi := _) (v := ?_) rfl (by kernel_rfl) (by kernel_rfl) (by kernel_rfl) (by kernel_rfl) (fun _ _ _ h => h) (Or.inl ⟨by rfl, ?_⟩) (by assumption) ?_
  rotate_left 1
  · intro w hSw
    (try dsimp only at hSw)
    (first | (go_simp; done) | (go_simp; with_reducible rfl))
  (try simp only [Act.put, List.getElem_toArray, List.getElem_cons_succ, List.getElem_cons_zero, List.setIfInBounds_toArray, List.set_cons_zero, List.set_cons_succ])
  refine wpAnyF_take (i := 4) (oi := _) (v := ?_) rfl (by kernel_rfl) (by kernel_rfl) (by kernel_rfl) (by kernel_rfl) (fun _ _ _ h => h) (Or.inl ⟨by rfl, ?_⟩) (by assumption) ?_
  rotate_left 1
  · intro w hSw
    (try dsimp only at hSw)
    (first | (go_simp; done) | (go_simp; with_reducible rfl))
  (try simp only [Act.put, List.getElem_toArray, List.getElem_cons_succ, List.getElem_cons_zero, List.setIfInBounds_toArray, List.set_cons_zero, List.set_cons_succ])
  refine wpAnyF_take (i := 6) (oi := _) (v := ?_) rfl (by kernel_rfl) (by kernel_rfl) (by kernel_rfl) (by kernel_rfl) (fun _ _ _ h => h) (Or.inl ⟨by rfl, ?_⟩) (by assumption) ?_
  rotate_left 1
  · intro w hSw
    (try dsimp only at hSw)
    (first | (go_simp; done) | (go_simp; with_reducible rfl))
  (try simp only [Act.put, List.getElem_toArray, List.getElem_cons_succ, List.getElem_cons_zero, List.setIfInBounds_toArray, List.set_cons_zero, List.set_cons_succ])
  refine wpAnyF_take (i := 7) (oi := _) (v := ?_) rfl (by kernel_rfl) (by kernel_rfl) (by kernel_rfl) (by kernel_rfl) (fun _ _ _ h => h) (Or.inl ⟨by rfl, ?_⟩) (by assumption) ?_
  rotate_left 1
  · intro w hSw
    (try dsimp only at hSw)
    (first | (go_simp; done) | (go_simp; with_reducible rfl))
  (try simp only [Act.put, List.getElem_toArray, List.getElem_cons_succ, List.getElem_cons_zero, List.setIfInBounds_toArray, List.set_cons_zero, List.set_cons_succ])
  refine wpAnyF_ready (rs := [2, 5]) (by kernel_rfl) (by simp) ?_
  refine AllReadyF.cons (o := _) rfl (fun K hK => ?_) (AllReadyF.cons (o := _) rfl (fun K hK => ?_) AllReadyF.nil)
  · go_simp
    refine hK.out _ _ (trivial) (fun hHeld1 => ?_)
    clear hK K
    (try simp only [Act.put, List.getElem_toArray, List.getElem_cons_succ, List.getElem_cons_zero, List.setIfInBounds_toArray, List.set_cons_zero, List.set_cons_succ])
    refine wpAnyF_ready (rs := [5]) (by kernel_rfl) (by simp) ?_
    refine AllReadyF.cons (o := _) rfl (fun K hK => ?_) AllReadyF.nil
    go_simp
    refine (refPut_yes 4 i (by omega) (by omega) (by omega) _).mono ?_
    rintro e w4 ⟨A4, c4, rfl, hb4, hs4⟩
    rw [putL_eq4] at hs4 ⊢
    obtain ⟨w5, hw5⟩ : ∃ w5, w5 = w4 := ⟨_, rfl⟩
    have HW5 := Lib.hid hw5
    have hb10 : Below W0.heap.size W0 (W0.alloc (.cells #[.int .u8 (lv : Int)] 5)) := (Below.refl _ _).alloc (Nat.le_refl _) _
    have hbw5 : Below W0.heap.size W0 w5 := by rw [hw5]; exact hb10.trans (Below.mono (show Below (W0.alloc (.cells #[.int .u8 (lv : Int)] 5)).heap.size (W0.alloc (.cells #[.int .u8 (lv : Int)] 5)) w4 from ((Below.refl _ _).drew).trans hb4) hb10.size)
    have hlv9 : w5.heap[W0.heap.size]? = some (.cells #[.int .u8 (lv : Int)] 5 (0, 0)) := by rw [hw5]; exact (hb4.block W0.heap.size (by simp)).trans (heap_alloc_new W0 _)
    have hs5 : BS w5 w5.heap.size A4 4 c4 (putL 4 i) := by rw [hw5]; exact hs4
    rw [← hw5]
    clear hw5 hb10
    obtain ⟨w2, hw2⟩ : ∃ w2, w2 = w5.alloc (.cells #[.slice (some ⟨W0.heap.size, 0, none⟩) 1 1, .slice A4 4 c4, .slice (some ⟨u.heap.size, 0, none⟩) 32 32, .slice (some ⟨u.heap.size + 1, 0, none⟩) 32 32] 89) := ⟨_, rfl⟩
    have hb6 : Below w5.heap.size w5 w2 := by rw [hw2]; exact (Below.refl _ _).alloc (Nat.le_refl _) _
    have hb5 : Below W0.heap.size W0 w2 := hbw5.trans (hb6.mono hbw5.size)
    have hx9 := (hb5.block _ (blk_lt HX0.out)).trans HX0.out
    have hy9 := (hb5.block _ (blk_lt HY0.out)).trans HY0.out
    rw [HXD.out] at hx9
    rw [HYD.out] at hy9
    have hpt : PtsZ w2 (.slice (some ⟨w5.heap.size, 0, none⟩) 4 4) [[lv], putL 4 i, x, y] := pts_four (by rw [hw2]; exact heap_alloc_new w5 _) (bs_lv hlv9 hb6 HLV.out) ((hs5.below hb6).more hb6.size) (bs_dig hx9 HDX.out) (bs_dig hy9 HDY.out) (fun q => by cases q) (bs_some hs5 (by omega)) (fun q => by cases q) (fun q => by cases q)
    have HPT := Lib.hid hpt
    have HW2 := Lib.hid hw2
    have HX2 : Hid (w2.heap[u.heap.size + 2]? = some (.cells (zeros 32) 33 (0, 0))) := Lib.hid ((hb5.block _ (blk_lt HR0.out)).trans HR0.out)
    have HB3 : Hid (Below u.heap.size u w2) := Lib.hid (HB0.out.trans (hb5.mono HB0.out.size))
    clear hb4 hs4 hb6 hb5 hx9 hy9 hpt hw2 hlv9 hs5 hbw5
    refine hK.out _ _ (trivial) (fun hHeld2 => ?_)
    clear hK K
    (try simp only [Act.put, List.getElem_toArray, List.getElem_cons_succ, List.getElem_cons_zero, List.setIfInBounds_toArray, List.set_cons_zero, List.set_cons_succ])
    refine wpAnyF_ready (rs := [8]) (by kernel_rfl) (by simp) ?_
    refine AllReadyF.cons (o := _) rfl (fun K hK => ?_) AllReadyF.nil
    go_simp
    (try rw [← HW5.out])
    refine hK.out _ _ (trivial) (fun hHeld3 => ?_)
    clear hK K
    (try simp only [Act.put, List.getElem_toArray, List.getElem_cons_succ, List.getElem_cons_zero, List.setIfInBounds_toArray, List.set_cons_zero, List.set_cons_succ])
    refine wpAnyF_ready (rs := [9]) (by kernel_rfl) (by simp) ?_
    refine AllReadyF.cons (o := _) rfl (fun K hK => ?_) AllReadyF.nil
    go_simp
    rw [← HW2.out]
    refine (rsum_any 1 (by omega) _ _ w2 HPT.out (by simp) (by simp; have h1 := putL_eq4 i; have h2 := HDX.out.1; have h3 := HDY.out.1; (try have h4 := putL_eq1 lv); omega)).mono ?_
    rintro e w9 ⟨rfl, hb9⟩
    rw [← HDA.out]
    have hx9 := (hb9.block _ (blk_lt HX2.out)).trans HX2.out
    have HX9 := Lib.hid hx9
    have HFX := Lib.hid (setRow_heap w9 _ _ da _ _ hx9)
    have HSE : Hid (Below u.heap.size u (w9.setRow (u.heap.size + 2) da)) := Lib.hid (below_setRow (HB3.out.trans (hb9.mono HB3.out.size)) (by omega) da)
    clear hb9 hx9
    refine hK.out _ _ (trivial) (fun hHeld4 => ?_)
    clear hK K
    (try simp only [Act.put, List.getElem_toArray, List.getElem_cons_succ, List.getElem_cons_zero, List.setIfInBounds_toArray, List.set_cons_zero, List.set_cons_succ])
    refine wpAnyF_ready (rs := [10]) (by kernel_rfl) (by simp) ?_
    refine AllReadyF.cons (o := _) rfl (fun K hK => ?_) AllReadyF.nil
    rw [if_pos (by kernel_rfl)]
    refine wp_store_row 33 (.tmp 8) (.tmp 18) rfl (u.heap.size + 2) da rfl rfl 33 (zeros 32) HX9.out HIA.out HZ.out HO.out ?_
    refine hK.out _ _ (trivial) (fun hHeld9 => ?_)
    clear hK K
    (try simp only [Act.put, List.getElem_toArray, List.getElem_cons_succ, List.getElem_cons_zero, List.setIfInBounds_toArray, List.set_cons_zero, List.set_cons_succ])
    refine wpAnyF_done (by kernel_rfl) ?_ _
    (try go_wp2_with fail)
    exact bodyPost_ret (v := .agg da) (results_cell_row rfl _ _ _ 33 _ (0, 0) _ rfl HFX.out Tryz.underlying33 rfl HIA.out) rfl ⟨rfl, HSE.out⟩
  · go_simp
    refine (refPut_yes 4 i (by omega) (by omega) (by omega) _).mono ?_
    rintro e w4 ⟨A4, c4, rfl, hb4, hs4⟩
    rw [putL_eq4] at hs4 ⊢
    obtain ⟨w5, hw5⟩ : ∃ w5, w5 = w4.alloc (.cells #[.int .u8 (lv : Int)] 5) := ⟨_, rfl⟩
    have HW5 := Lib.hid hw5
    have hbw4 : Below W0.heap.size W0 w4 := ((Below.refl _ _).drew).trans hb4
    have hb10 : Below w4.heap.size w4 w5 := by rw [hw5]; exact (Below.refl _ _).alloc (Nat.le_refl _) _
    have hbw5 : Below W0.heap.size W0 w5 := hbw4.trans (hb10.mono hbw4.size)
    have hlv9 : w5.heap[w4.heap.size]? = some (.cells #[.int .u8 (lv : Int)] 5 (0, 0)) := by rw [hw5]; exact heap_alloc_new w4 _
    have hs5 : BS w5 w5.heap.size A4 4 c4 (putL 4 i) := (hs4.below hb10).more hb10.size
    clear hw5 hb10 hbw4
    obtain ⟨w2, hw2⟩ : ∃ w2, w2 = w5.alloc (.cells #[.slice (some ⟨w4.heap.size, 0, none⟩) 1 1, .slice A4 4 c4, .slice (some ⟨u.heap.size, 0, none⟩) 32 32, .slice (some ⟨u.heap.size + 1, 0, none⟩) 32 32] 89) := ⟨_, rfl⟩
    have hb6 : Below w5.heap.size w5 w2 := by rw [hw2]; exact (Below.refl _ _).alloc (Nat.le_refl _) _
    have hb5 : Below W0.heap.size W0 w2 := hbw5.trans (hb6.mono hbw5.size)
    have hx9 := (hb5.block _ (blk_lt HX0.out)).trans HX0.out
    have hy9 := (hb5.block _ (blk_lt HY0.out)).trans HY0.out
    rw [HXD.out] at hx9
    rw [HYD.out] at hy9
    have hpt : PtsZ w2 (.slice (some ⟨w5.heap.size, 0, none⟩) 4 4) [[lv], putL 4 i, x, y] := pts_four (by rw [hw2]; exact heap_alloc_new w5 _) (bs_lv hlv9 hb6 HLV.out) ((hs5.below hb6).more hb6.size) (bs_dig hx9 HDX.out) (bs_dig hy9 HDY.out) (fun q => by cases q) (bs_some hs5 (by omega)) (fun q => by cases q) (fun q => by cases q)
    have HPT := Lib.hid hpt
    have HW2 := Lib.hid hw2
    have HX2 : Hid (w2.heap[u.heap.size + 2]? = some (.cells (zeros 32) 33 (0, 0))) := Lib.hid ((hb5.block _ (blk_lt HR0.out)).trans HR0.out)
    have HB3 : Hid (Below u.heap.size u w2) := Lib.hid (HB0.out.trans (hb5.mono HB0.out.size))
    clear hb4 hs4 hb6 hb5 hx9 hy9 hpt hw2 hlv9 hs5 hbw5
    refine hK.out _ _ (trivial) (fun hHeld1 => ?_)
    clear hK K
    (try simp only [Act.put, List.getElem_toArray, List.getElem_cons_succ, List.getElem_cons_zero, List.setIfInBounds_toArray, List.set_cons_zero, List.set_cons_succ])
    refine wpAnyF_ready (rs := [2]) (by kernel_rfl) (by simp) ?_
    refine AllReadyF.cons (o := _) rfl (fun K hK => ?_) AllReadyF.nil
    go_simp
    rw [← HW5.out]
    refine hK.out _ _ (trivial) (fun hHeld2 => ?_)
    clear hK K
    (try simp only [Act.put, List.getElem_toArray, List.getElem_cons_succ, List.getElem_cons_zero, List.setIfInBounds_toArray, List.set_cons_zero, List.set_cons_succ])
    refine wpAnyF_ready (rs := [8]) (by kernel_rfl) (by simp) ?_
    refine AllReadyF.cons (o := _) rfl (fun K hK => ?_) AllReadyF.nil
    go_simp
    (try rw [← HW5.out])
    refine hK.out _ _ (trivial) (fun hHeld3 => ?_)
    clear hK K
    (try simp only [Act.put, List.getElem_toArray, List.getElem_cons_succ, List.getElem_cons_zero, List.setIfInBounds_toArray, List.set_cons_zero, List.set_cons_succ])
    refine wpAnyF_ready (rs := [9]) (by kernel_rfl) (by simp) ?_
    refine AllReadyF.cons (o := _) rfl (fun K hK => ?_) AllReadyF.nil
    go_simp
    rw [← HW2.out]
    refine (rsum_any 1 (by omega) _ _ w2 HPT.out (by simp) (by simp; have h1 := putL_eq4 i; have h2 := HDX.out.1; have h3 := HDY.out.1; (try have h4 := putL_eq1 lv); omega)).mono ?_
    rintro e w9 ⟨rfl, hb9⟩
    rw [← HDA.out]
    have hx9 := (hb9.block _ (blk_lt HX2.out)).trans HX2.out
    have HX9 := Lib.hid hx9
    have HFX := Lib.hid (setRow_heap w9 _ _ da _ _ hx9)
    have HSE : Hid (Below u.heap.size u (w9.setRow (u.heap.size + 2) da)) := Lib.hid (below_setRow (HB3.out.trans (hb9.mono HB3.out.size)) (by omega) da)
    clear hb9 hx9
    refine hK.out _ _ (trivial) (fun hHeld4 => ?_)
    clear hK K
    (try simp only [Act.put, List.getElem_toArray, List.getElem_cons_succ, List.getElem_cons_zero, List.setIfInBounds_toArray, List.set_cons_zero, List.set_cons_succ])
    refine wpAnyF_ready (rs := [10]) (by kernel_rfl) (by simp) ?_
    refine AllReadyF.cons (o := _) rfl (fun K hK => ?_) AllReadyF.nil
    rw [if_pos (by kernel_rfl)]
    refine wp_store_row 33 (.tmp 8) (.tmp 18) rfl (u.heap.size + 2) da rfl rfl 33 (zeros 32) HX9.out HIA.out HZ.out HO.out ?_
    refine hK.out _ _ (trivial) (fun hHeld9 => ?_)
    clear hK K
    (try simp only [Act.put, List.getElem_toArray, List.getElem_cons_succ, List.getElem_cons_zero, List.setIfInBounds_toArray, List.set_cons_zero, List.set_cons_succ])
    refine wpAnyF_done (by kernel_rfl) ?_ _
    (try go_wp2_with fail)
    exact bodyPost_ret (v := .agg da) (results_cell_row rfl _ _ _ 33 _ (0, 0) _ rfl HFX.out Tryz.underlying33 rfl HIA.out) rfl ⟨rfl, HSE.out⟩
end
end Go.Proofs.YtoclelpmampikaaGreat
