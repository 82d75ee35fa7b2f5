/-
  Package garderobelaw27: Cut, Ours, Plain.
-/
import Derived.Test.YtcaogiaoabdkdaaDoorZScG
namespace Go.Proofs.YtcaogiaoabdkdaaDoor
open Go.RowKit Go
set_option linter.unusedVariables false
set_option linter.unusedSimpArgs false
set_option maxRecDepth 100000
/-- bytes are appended; other blocks stay -/
theorem step_apps {K0 : Act → World → Prop} {o : Oper} {a : Act} {Q : Exit → Act → World → Prop} (W : World) (s x : Operand)
    (ho : o.op = .call { callee := .builtin .append, args := #[s, x], argTypes := #[24, 24] })
    (B : Nat) (v : Value) (l : List Nat) (hs : a.eval s = v) (hown : Own W B v l)
    (B' : Nat) (A : Option Addr) (m c : Nat) (l' : List Nat) (hx : a.eval x = .slice A m c) (hr : BS W B' A m c l') (hA : A = none → c = 0) (hn : l.length + m < 1000000000) (hB : B ≤ W.heap.size)
    (h : ∀ v' w', Own w' B v' (l ++ l') → Below B W w' → K0 (a.put o.dst v') w') : Oper.wp Tryd.prog o a W K0 Q := by
  obtain ⟨i0, hi, hz0, hz1, hz2⟩ := info_parts info_u8
  have hm := hr.len
  rcases A with _ | ad
  · have h0 := hA rfl
    have h1 := hr.cap
    have hm0 : m = 0 := by omega
    subst hm0 h0
    obtain rfl := List.length_eq_zero_iff.mp hm
    have hrun := run_append_owned_none (P := Tryd.prog) (w := W) B 24 o.type 5 i0 1 Tryd.underlying24 hi v l.length (bvals l) hown
    unfold Oper.wp
    simp [execOp, ho, resolve, invoke, builtin, hs, hx, hrun, Result.andThen]
    exact h v W (by rw [List.append_nil]; exact hown) (Below.refl _ _)
  · refine wp_append_own _ s x 24 ho B 5 i0 (.int .u8 0) 1 1 Tryd.underlying24 hi hz0 hz1 hz2 rfl (by decide) v l.length (bvals l) hs hown ad m c
      (bvals l') hx (by rw [bvals_len, hm, Nat.mul_one]) ?_ (bvals_one l') (by unfold maxLen; omega) (by omega) hB ?_
    · intro j u hj
      have hjl : j < l'.length := by
        rcases Nat.lt_or_ge j l'.length with h | h
        · exact h
        · rw [List.getElem?_eq_none (by rw [bvals_len]; exact h)] at hj; cases hj
      obtain ⟨b, o, e, _, hc⟩ := hr.at_ (by omega)
      obtain rfl : ad = ⟨b, o, none⟩ := Option.some.inj e
      have h2 := hc j (by omega)
      rw [Go.WideShapes.add_plain, h2, ← hj]
      simp [bvals, List.getElem?_eq_getElem hjl, List.getD]
    · intro v' w1 hown' hg _
      refine h v' w1 ?_ ((Below.refl B W).grown hg hB (fun k hk => (World.ownsRow.lt hown k hk).1))
      have e : bvals (l ++ l') = bvals l ++ bvals l' := by simp [bvals]
      unfold Own
      rw [e, List.length_append, hm]
      exact hown'
/-- the call gives a row of acts of its own -/
def GivesA (t : TypeId) (w : World) (l : List Ac) (e : Ending) (w' : World) : Prop := ∃ v, e = .returned v ∧ AcO t w' w.heap.size w.heap.size v l ∧ Below w.heap.size w w'
def AcR (t : TypeId) (w : World) (f : Nat → List Ac) (m : Nat) (iv v : Value) (wr : World) : Prop := ∃ (k : Nat) (x : Value), iv = .int .i64 (k : Int) ∧ x = v ∧ k ≤ m ∧ AcO t wr w.heap.size w.heap.size x (f k) ∧ Below w.heap.size w wr
theorem cut_short {a : Ac} (h : a.b.length ≤ 1030) : cutA a = ⟨a.kind, a.yes, a.which, a.k, a.n, a.pos, a.b⟩ := by unfold cutA; rw [List.take_of_length_le h]
set_option maxHeartbeats 4000000 in
theorem cut27_any (A : Option Addr) (n c m : Nat) (l : List Ac) (w : World) (hv : AcV w A n l) (hn9 : n ≤ 9223372036854775807) (hm : m ≤ 10) :
    Calls Tryd.prog 6 #[.slice A n c, .int .i64 (m : Int)] w (GivesA 26 w (cutL m l)) := by
  have HV := Lib.hid hv
  have HL := Lib.hid hv.1
  have HR : Hid (AcR 26 w (fun j => (l.take j).map cutA) (min n m) (.int .i64 0) (.slice none 0 0) w) := Lib.hid ⟨0, _, rfl, rfl, by omega, AcO.nil _ _ _ _, Below.refl _ _⟩
  clear hv
  go_enter Tryd.func6, Tryd.ntmps6
  go_wp2_with fail
  go_loopw [10, 5] (fun iv v wr => AcR 26 w (fun j => (l.take j).map cutA) (min n m) iv v wr) (fun iv _ _ => (n - intOf iv).toNat)
  case atStart => exact HR.out
  case round =>
    clear HR
    obtain ⟨k, v, rfl, rfl, hk, hO, hb⟩ := hrel
    have HO := Lib.hid hO
    have HB := Lib.hid hb
    clear hO hb
    by_cases hlt : k < n
    · by_cases hlm : k < m
      · have HNX : Hid (∀ v' w', AcO 26 w' w.heap.size w.heap.size v' ((l.take k).map cutA ++ [cutA (aAt l k)]) → Below w.heap.size w w' → AcR 26 w (fun j => (l.take j).map cutA) (min n m) (.int .i64 ((k : Int) + 1)) v' w') := Lib.hid (fun v' w' h1 h2 => ⟨k + 1, v', rfl, rfl, by omega, by dsimp only; rw [take_map_succ (by rw [HL.out]; exact hlt)]; exact h1, h2⟩)
        have HTL : Hid (((l.take k).map cutA).length < 100000) := Lib.hid (by rw [List.length_map, List.length_take]; omega)
        obtain ⟨b, o, A1, c1, rfl, hb0, q0, q1, q2, q3, q4, q5, q6, hs1, hz1⟩ := HV.out.at_ (show k < n by omega)
        have p0 : wr.cell? ⟨b, o + k * 7, none⟩ = some (.int .i64 (aAt l k).kind) := (HB.out.cell (p := ⟨b, o + k * 7, none⟩) hb0).trans q0
        have p1 : wr.cell? ⟨b, o + k * 7 + 1, none⟩ = some (.bool (aAt l k).yes) := (HB.out.cell (p := ⟨b, o + k * 7 + 1, none⟩) hb0).trans q1
        have p2 : wr.cell? ⟨b, o + k * 7 + 2, none⟩ = some (.int .i64 (aAt l k).which) := (HB.out.cell (p := ⟨b, o + k * 7 + 2, none⟩) hb0).trans q2
        have p3 : wr.cell? ⟨b, o + k * 7 + 3, none⟩ = some (.int .i64 (aAt l k).k) := (HB.out.cell (p := ⟨b, o + k * 7 + 3, none⟩) hb0).trans q3
        have p4 : wr.cell? ⟨b, o + k * 7 + 4, none⟩ = some (.int .i64 (aAt l k).n) := (HB.out.cell (p := ⟨b, o + k * 7 + 4, none⟩) hb0).trans q4
        have p5 : wr.cell? ⟨b, o + k * 7 + 5, none⟩ = some (.int .i64 (aAt l k).pos) := (HB.out.cell (p := ⟨b, o + k * 7 + 5, none⟩) hb0).trans q5
        have p6 : wr.cell? ⟨b, o + k * 7 + 6, none⟩ = some (.slice A1 (aAt l k).b.length c1) := (HB.out.cell (p := ⟨b, o + k * 7 + 6, none⟩) hb0).trans q6
        have HZ := Lib.hid hz1
        have hlt1 : b < wr.heap.size := Nat.lt_of_lt_of_le hb0 HB.out.size
        have hmI : ¬ (m : Int) ≤ (k : Int) := by omega
        dsimp only at HO
        by_cases hcl : (aAt l k).b.length ≤ 1030
        · rw [cut_short hcl] at HNX
          obtain ⟨bb, hbb⟩ : ∃ bb, (aAt l k).b = bb := ⟨_, rfl⟩
          rw [hbb] at p6 hs1 HNX hcl
          obtain ⟨n1, hn1⟩ : ∃ n1, bb.length = n1 := ⟨_, rfl⟩
          have HN1 := Lib.hid hn1
          rw [hn1] at p6 hs1 hcl
          have HS1 := Lib.hid hs1
          clear q0 q1 q2 q3 q4 q5 q6 hs1 hz1 hb0 hbb hn1
          generalize (aAt l k).kind = kd at *
          generalize (aAt l k).yes = y at *
          generalize (aAt l k).which = z1 at *
          generalize (aAt l k).k = z2 at *
          generalize (aAt l k).n = z3 at *
          generalize (aAt l k).pos = z4 at *
          generalize (l.take k).map cutA = pre at *
          have hcI : ¬ (1030 : Int) < (n1 : Int) := by omega
          have HB5 : Hid (Below wr.heap.size wr (wr.alloc (.cells #[.int .i64 kd, .bool y, .int .i64 z1, .int .i64 z2, .int .i64 z3, .int .i64 z4, .slice A1 n1 c1] 26))) := Lib.hid (al1 _ _)
          have HS5 : Hid (w.heap.size ≤ (wr.alloc (.cells #[.int .i64 kd, .bool y, .int .i64 z1, .int .i64 z2, .int .i64 z3, .int .i64 z4, .slice A1 n1 c1] 26)).heap.size) := Lib.hid (Nat.le_trans HB.out.size HB5.out.size)
          have HO5 : Hid (AcO 26 (wr.alloc (.cells #[.int .i64 kd, .bool y, .int .i64 z1, .int .i64 z2, .int .i64 z3, .int .i64 z4, .slice A1 n1 c1] 26)) w.heap.size w.heap.size v pre) := Lib.hid (HO.out.below (Nat.le_refl _) HB.out.size HB5.out)
          have HI5 : Hid (EnI (wr.alloc (.cells #[.int .i64 kd, .bool y, .int .i64 z1, .int .i64 z2, .int .i64 z3, .int .i64 z4, .slice A1 n1 c1] 26)) w.heap.size w.heap.size A1 c1 bb) := Lib.hid ⟨.inl (by rw [HN1.out]; exact (HS1.out).below (HB.out.trans (HB5.out.mono HB.out.size))), HZ.out⟩
          have HSZ5 : Hid ((wr.alloc (.cells #[.int .i64 kd, .bool y, .int .i64 z1, .int .i64 z2, .int .i64 z3, .int .i64 z4, .slice A1 n1 c1] 26)).heap.size = wr.heap.size + 1) := Lib.hid (by simp)
          go_wp2_with (at_builtin; refine wp_appA 26 22 Tryd.underlying22 (by kernel_rfl) (by decide) _ rfl (.tmp 26) (.tmp 28) rfl w.heap.size w.heap.size (Nat.le_refl _) v pre kd z1 z2 z3 z4 y bb A1 c1 n1 HN1.out rfl HO5.out HTL.out (by rw [HSZ5.out]; rfl) HI5.out HS5.out ?_; intro v9 w9 ho9 hd9 hf9; have HG : Hid (AcR 26 w (fun j => (l.take j).map cutA) (min n m) (.int .i64 ((k : Int) + 1)) v9 w9) := Lib.hid (HNX.out v9 w9 ho9 (HB.out.trans ((HB5.out.mono HB.out.size).trans (hd9.mono (Nat.le_refl _))))); clear ho9 hd9 hf9)
          go_roundw
          case rel => exact HG.out
          case measure => simp [intOf]; omega
        · have hct : (aAt l k).b.length = (aAt l k).b.length := rfl
          unfold cutA at HNX
          obtain ⟨bb, hbb⟩ : ∃ bb, (aAt l k).b.take 1030 = bb := ⟨_, rfl⟩
          have HT1 : Hid (BS w w.heap.size A1 1030 c1 bb) := Lib.hid (by rw [← hbb]; exact hs1.take (by omega))
          have HT2 : Hid (bb.length = 1030) := Lib.hid HT1.out.len
          have HNX2 : Hid (∀ v' w', AcO 26 w' w.heap.size w.heap.size v' ((l.take k).map cutA ++ [⟨(aAt l k).kind, (aAt l k).yes, (aAt l k).which, (aAt l k).k, (aAt l k).n, (aAt l k).pos, bb⟩]) → Below w.heap.size w w' → AcR 26 w (fun j => (l.take j).map cutA) (min n m) (.int .i64 ((k : Int) + 1)) v' w') := Lib.hid (fun v' w' h1 h2 => HNX.out v' w' (by rw [hbb]; exact h1) h2)
          clear HNX
          have HNX := HNX2
          clear HNX2
          obtain ⟨n1, hn1⟩ : ∃ n1, (aAt l k).b.length = n1 := ⟨_, rfl⟩
          rw [hn1] at p6 hs1 hcl
          have hcap := hs1.cap
          have hcc : 1030 ≤ c1 := by omega
          clear q0 q1 q2 q3 q4 q5 q6 hs1 hz1 hb0 hbb hn1 hct
          generalize (aAt l k).kind = kd at *
          generalize (aAt l k).yes = y at *
          generalize (aAt l k).which = z1 at *
          generalize (aAt l k).k = z2 at *
          generalize (aAt l k).n = z3 at *
          generalize (aAt l k).pos = z4 at *
          generalize (l.take k).map cutA = pre at *
          have hcI : (1030 : Int) < (n1 : Int) := by omega
          have HB5 : Hid (Below wr.heap.size wr (wr.alloc (.cells #[.int .i64 kd, .bool y, .int .i64 z1, .int .i64 z2, .int .i64 z3, .int .i64 z4, .slice A1 1030 c1] 26))) := Lib.hid (al1 _ _)
          have HS5 : Hid (w.heap.size ≤ (wr.alloc (.cells #[.int .i64 kd, .bool y, .int .i64 z1, .int .i64 z2, .int .i64 z3, .int .i64 z4, .slice A1 1030 c1] 26)).heap.size) := Lib.hid (Nat.le_trans HB.out.size HB5.out.size)
          have HO5 : Hid (AcO 26 (wr.alloc (.cells #[.int .i64 kd, .bool y, .int .i64 z1, .int .i64 z2, .int .i64 z3, .int .i64 z4, .slice A1 1030 c1] 26)) w.heap.size w.heap.size v pre) := Lib.hid (HO.out.below (Nat.le_refl _) HB.out.size HB5.out)
          have HI5 : Hid (EnI (wr.alloc (.cells #[.int .i64 kd, .bool y, .int .i64 z1, .int .i64 z2, .int .i64 z3, .int .i64 z4, .slice A1 1030 c1] 26)) w.heap.size w.heap.size A1 c1 bb) := Lib.hid ⟨.inl (by rw [HT2.out]; exact (HT1.out).below (HB.out.trans (HB5.out.mono HB.out.size))), HZ.out⟩
          have HSZ5 : Hid ((wr.alloc (.cells #[.int .i64 kd, .bool y, .int .i64 z1, .int .i64 z2, .int .i64 z3, .int .i64 z4, .slice A1 1030 c1] 26)).heap.size = wr.heap.size + 1) := Lib.hid (by simp)
          go_wp2_with (at_builtin; refine wp_appA 26 22 Tryd.underlying22 (by kernel_rfl) (by decide) _ rfl (.tmp 26) (.tmp 28) rfl w.heap.size w.heap.size (Nat.le_refl _) v pre kd z1 z2 z3 z4 y bb A1 c1 1030 HT2.out rfl HO5.out HTL.out (by rw [HSZ5.out]; rfl) HI5.out HS5.out ?_; intro v9 w9 ho9 hd9 hf9; have HG : Hid (AcR 26 w (fun j => (l.take j).map cutA) (min n m) (.int .i64 ((k : Int) + 1)) v9 w9) := Lib.hid (HNX.out v9 w9 ho9 (HB.out.trans ((HB5.out.mono HB.out.size).trans (hd9.mono (Nat.le_refl _))))); clear ho9 hd9 hf9)
          go_roundw
          case rel => exact HG.out
          case measure => simp [intOf]; omega
      · have hkm : k = m := by omega
        obtain ⟨b, o, A1, c1, rfl, hb0, q0, q1, q2, q3, q4, q5, q6, hs1, hz1⟩ := HV.out.at_ (show k < n by omega)
        have p0 : wr.cell? ⟨b, o + k * 7, none⟩ = some (.int .i64 (aAt l k).kind) := (HB.out.cell (p := ⟨b, o + k * 7, none⟩) hb0).trans q0
        have p1 : wr.cell? ⟨b, o + k * 7 + 1, none⟩ = some (.bool (aAt l k).yes) := (HB.out.cell (p := ⟨b, o + k * 7 + 1, none⟩) hb0).trans q1
        have p2 : wr.cell? ⟨b, o + k * 7 + 2, none⟩ = some (.int .i64 (aAt l k).which) := (HB.out.cell (p := ⟨b, o + k * 7 + 2, none⟩) hb0).trans q2
        have p3 : wr.cell? ⟨b, o + k * 7 + 3, none⟩ = some (.int .i64 (aAt l k).k) := (HB.out.cell (p := ⟨b, o + k * 7 + 3, none⟩) hb0).trans q3
        have p4 : wr.cell? ⟨b, o + k * 7 + 4, none⟩ = some (.int .i64 (aAt l k).n) := (HB.out.cell (p := ⟨b, o + k * 7 + 4, none⟩) hb0).trans q4
        have p5 : wr.cell? ⟨b, o + k * 7 + 5, none⟩ = some (.int .i64 (aAt l k).pos) := (HB.out.cell (p := ⟨b, o + k * 7 + 5, none⟩) hb0).trans q5
        have p6 : wr.cell? ⟨b, o + k * 7 + 6, none⟩ = some (.slice A1 (aAt l k).b.length c1) := (HB.out.cell (p := ⟨b, o + k * 7 + 6, none⟩) hb0).trans q6
        have hlt1 : b < wr.heap.size := Nat.lt_of_lt_of_le hb0 HB.out.size
        have hmI : (m : Int) ≤ (k : Int) := by omega
        dsimp only at HO
        have HF : Hid (∀ o, GivesA 26 w (cutL m l) (.returned v) (wr.alloc o)) := Lib.hid (fun o => ⟨v, rfl, by
          have e : (l.take k).map cutA = cutL m l := by unfold cutL; rw [hkm]
          rw [← e]; exact HO.out.below (Nat.le_refl _) HB.out.size (al1 _ _), HB.out.trans ((al1 _ _).mono HB.out.size)⟩)
        obtain ⟨n1, hn1⟩ : ∃ n1, (aAt l k).b.length = n1 := ⟨_, rfl⟩
        rw [hn1] at p6
        clear q0 q1 q2 q3 q4 q5 q6 hs1 hz1 hb0 hkm hn1 HO
        generalize (aAt l k).kind = kd at *
        generalize (aAt l k).yes = y at *
        generalize (aAt l k).which = z1 at *
        generalize (aAt l k).k = z2 at *
        generalize (aAt l k).n = z3 at *
        generalize (aAt l k).pos = z4 at *
        go_wp2
        go_ret
        exact HF.out _
    · have hmI : k = n := by omega
      have HF : Hid (GivesA 26 w (cutL m l) (.returned v) wr) := Lib.hid ⟨v, rfl, by
        have e : (l.take k).map cutA = cutL m l := by unfold cutL; rw [List.take_of_length_le (by rw [HL.out]; omega), List.take_of_length_le (by rw [HL.out]; omega)]
        rw [← e]; exact HO.out, HB.out⟩
      clear HO
      go_wp2
      go_ret
      exact HF.out
set_option maxHeartbeats 8000000 in
theorem plain27_any (A : Option Addr) (n c : Nat) (l : List Ac) (w : World) (hv : AcV w A n l) (hn9 : n < 100000) (hb9 : ∀ i, (aAt l i).b.length < 1000000) :
    Calls Tryd.prog 15 #[.slice A n c] w (GivesA 26 w l) := by
  have HV := Lib.hid hv
  have HL := Lib.hid hv.1
  have H9 := Lib.hid hb9
  have HBY := Lib.hid (fun i => hv.byte i)
  have HR : Hid (AcR 26 w (fun j => l.take j) n (.int .i64 0) (.slice none 0 0) w) := Lib.hid ⟨0, _, rfl, rfl, by omega, AcO.nil _ _ _ _, Below.refl _ _⟩
  clear hv hb9
  go_enter Tryd.func15, Tryd.ntmps15
  go_wp2_with fail
  go_loopw [8, 3] (fun iv v wr => AcR 26 w (fun j => l.take j) n iv v wr) (fun iv _ _ => (n - intOf iv).toNat)
  case atStart => exact HR.out
  case round =>
    clear HR
    obtain ⟨k, v, rfl, rfl, hk, hO, hb⟩ := hrel
    have HO := Lib.hid hO
    have HB := Lib.hid hb
    clear hO hb
    by_cases hlt : k < n
    · have HNX : Hid (∀ v' w', AcO 26 w' w.heap.size w.heap.size v' (l.take k ++ [aAt l k]) → Below w.heap.size w w' → AcR 26 w (fun j => l.take j) n (.int .i64 ((k : Int) + 1)) v' w') := Lib.hid (fun v' w' h1 h2 => ⟨k + 1, v', rfl, rfl, by omega, by dsimp only; rw [take_succ_aAt (by rw [HL.out]; exact hlt)]; exact h1, h2⟩)
      have HTL : Hid ((l.take k).length < 100000) := Lib.hid (by rw [List.length_take]; omega)
      obtain ⟨b, o, A1, c1, rfl, hb0, q0, q1, q2, q3, q4, q5, q6, hs1, hz1⟩ := HV.out.at_ (show k < n by omega)
      have p0 : wr.cell? ⟨b, o + k * 7, none⟩ = some (.int .i64 (aAt l k).kind) := (HB.out.cell (p := ⟨b, o + k * 7, none⟩) hb0).trans q0
      have p1 : wr.cell? ⟨b, o + k * 7 + 1, none⟩ = some (.bool (aAt l k).yes) := (HB.out.cell (p := ⟨b, o + k * 7 + 1, none⟩) hb0).trans q1
      have p2 : wr.cell? ⟨b, o + k * 7 + 2, none⟩ = some (.int .i64 (aAt l k).which) := (HB.out.cell (p := ⟨b, o + k * 7 + 2, none⟩) hb0).trans q2
      have p3 : wr.cell? ⟨b, o + k * 7 + 3, none⟩ = some (.int .i64 (aAt l k).k) := (HB.out.cell (p := ⟨b, o + k * 7 + 3, none⟩) hb0).trans q3
      have p4 : wr.cell? ⟨b, o + k * 7 + 4, none⟩ = some (.int .i64 (aAt l k).n) := (HB.out.cell (p := ⟨b, o + k * 7 + 4, none⟩) hb0).trans q4
      have p5 : wr.cell? ⟨b, o + k * 7 + 5, none⟩ = some (.int .i64 (aAt l k).pos) := (HB.out.cell (p := ⟨b, o + k * 7 + 5, none⟩) hb0).trans q5
      have p6 : wr.cell? ⟨b, o + k * 7 + 6, none⟩ = some (.slice A1 (aAt l k).b.length c1) := (HB.out.cell (p := ⟨b, o + k * 7 + 6, none⟩) hb0).trans q6
      have HZ := Lib.hid hz1
      have h99 := H9.out k
      have HBB := Lib.hid (HBY.out k)
      have hlt1 : b < wr.heap.size := Nat.lt_of_lt_of_le hb0 HB.out.size
      dsimp only at HO
      have HNX2 : Hid (∀ v' w', AcO 26 w' w.heap.size w.heap.size v' (l.take k ++ [⟨(aAt l k).kind, (aAt l k).yes, (aAt l k).which, (aAt l k).k, (aAt l k).n, (aAt l k).pos, (aAt l k).b⟩]) → Below w.heap.size w w' → AcR 26 w (fun j => l.take j) n (.int .i64 ((k : Int) + 1)) v' w') := HNX
      clear HNX
      have HNX := HNX2
      clear HNX2
      obtain ⟨bb, hbb⟩ : ∃ bb, (aAt l k).b = bb := ⟨_, rfl⟩
      rw [hbb] at p6 hs1 HNX h99 HBB
      obtain ⟨n1, hn1⟩ : ∃ n1, bb.length = n1 := ⟨_, rfl⟩
      have HN1 := Lib.hid hn1
      rw [hn1] at p6 hs1 h99
      have HS1 := Lib.hid hs1
      clear q0 q1 q2 q3 q4 q5 q6 hs1 hz1 hb0 hbb hn1
      generalize (aAt l k).kind = kd at *
      generalize (aAt l k).yes = y at *
      generalize (aAt l k).which = z1 at *
      generalize (aAt l k).k = z2 at *
      generalize (aAt l k).n = z3 at *
      generalize (aAt l k).pos = z4 at *
      generalize l.take k = pre at *
      have HB5 : Hid (Below wr.heap.size wr (wr.alloc (.cells #[.int .i64 kd, .bool y, .int .i64 z1, .int .i64 z2, .int .i64 z3, .int .i64 z4, .slice A1 n1 c1] 30))) := Lib.hid (al1 _ _)
      have HS5 : Hid (w.heap.size ≤ (wr.alloc (.cells #[.int .i64 kd, .bool y, .int .i64 z1, .int .i64 z2, .int .i64 z3, .int .i64 z4, .slice A1 n1 c1] 30)).heap.size) := Lib.hid (Nat.le_trans HB.out.size HB5.out.size)
      have HO5 : Hid (AcO 26 (wr.alloc (.cells #[.int .i64 kd, .bool y, .int .i64 z1, .int .i64 z2, .int .i64 z3, .int .i64 z4, .slice A1 n1 c1] 30)) w.heap.size w.heap.size v pre) := Lib.hid (HO.out.below (Nat.le_refl _) HB.out.size HB5.out)
      have HI5 : Hid (EnI (wr.alloc (.cells #[.int .i64 kd, .bool y, .int .i64 z1, .int .i64 z2, .int .i64 z3, .int .i64 z4, .slice A1 n1 c1] 30)) w.heap.size w.heap.size A1 c1 bb) := Lib.hid ⟨.inl (by rw [HN1.out]; exact (HS1.out).below (HB.out.trans (HB5.out.mono HB.out.size))), HZ.out⟩
      have HSZ5 : Hid ((wr.alloc (.cells #[.int .i64 kd, .bool y, .int .i64 z1, .int .i64 z2, .int .i64 z3, .int .i64 z4, .slice A1 n1 c1] 30)).heap.size = wr.heap.size + 1) := Lib.hid (by simp)
      go_upto_region 6 with (at_builtin; refine wp_appA 26 22 Tryd.underlying22 (by kernel_rfl) (by decide) _ rfl (.tmp 12) (.tmp 28) rfl w.heap.size w.heap.size (Nat.le_refl _) v pre kd z1 z2 z3 z4 y bb A1 c1 n1 HN1.out rfl HO5.out HTL.out (by rw [HSZ5.out]; rfl) HI5.out HS5.out ?_; intro v9 w9 ho9 hd9 hf9; have HG : Hid (AcR 26 w (fun j => l.take j) n (.int .i64 ((k : Int) + 1)) v9 w9) := Lib.hid (HNX.out v9 w9 ho9 (HB.out.trans ((HB5.out.mono HB.out.size).trans (hd9.mono (Nat.le_refl _))))); clear ho9 hd9 hf9)
      go_wp2
      go_roundw
      case rel => exact HG.out
      case measure => simp [intOf]; omega
    · have hmI : k = n := by omega
      have HF : Hid (GivesA 26 w l (.returned v) wr) := Lib.hid ⟨v, rfl, by
        have e : l.take k = l := List.take_of_length_le (by rw [HL.out]; omega)
        have h := HO.out
        dsimp only at h
        rw [e] at h; exact h, HB.out⟩
      clear HO
      go_wp2
      go_ret
      exact HF.out
set_option maxHeartbeats 8000000 in
theorem ours27_any (A : Option Addr) (n c : Nat) (l : List Ac) (w : World) (hv : AcV w A n l) (hn9 : n < 100000) (hb9 : ∀ i, (aAt l i).b.length < 1000000) :
    Calls Tryd.prog 8 #[.slice A n c] w (GivesA 30 w l) := by
  have HV := Lib.hid hv
  have HL := Lib.hid hv.1
  have H9 := Lib.hid hb9
  have HBY := Lib.hid (fun i => hv.byte i)
  have HR : Hid (AcR 30 w (fun j => l.take j) n (.int .i64 0) (.slice none 0 0) w) := Lib.hid ⟨0, _, rfl, rfl, by omega, AcO.nil _ _ _ _, Below.refl _ _⟩
  clear hv hb9
  go_enter Tryd.func8, Tryd.ntmps8
  go_wp2_with fail
  go_loopw [8, 3] (fun iv v wr => AcR 30 w (fun j => l.take j) n iv v wr) (fun iv _ _ => (n - intOf iv).toNat)
  case atStart => exact HR.out
  case round =>
    clear HR
    obtain ⟨k, v, rfl, rfl, hk, hO, hb⟩ := hrel
    have HO := Lib.hid hO
    have HB := Lib.hid hb
    clear hO hb
    by_cases hlt : k < n
    · have HNX : Hid (∀ v' w', AcO 30 w' w.heap.size w.heap.size v' (l.take k ++ [aAt l k]) → Below w.heap.size w w' → AcR 30 w (fun j => l.take j) n (.int .i64 ((k : Int) + 1)) v' w') := Lib.hid (fun v' w' h1 h2 => ⟨k + 1, v', rfl, rfl, by omega, by dsimp only; rw [take_succ_aAt (by rw [HL.out]; exact hlt)]; exact h1, h2⟩)
      have HTL : Hid ((l.take k).length < 100000) := Lib.hid (by rw [List.length_take]; omega)
      obtain ⟨b, o, A1, c1, rfl, hb0, q0, q1, q2, q3, q4, q5, q6, hs1, hz1⟩ := HV.out.at_ (show k < n by omega)
      have p0 : wr.cell? ⟨b, o + k * 7, none⟩ = some (.int .i64 (aAt l k).kind) := (HB.out.cell (p := ⟨b, o + k * 7, none⟩) hb0).trans q0
      have p1 : wr.cell? ⟨b, o + k * 7 + 1, none⟩ = some (.bool (aAt l k).yes) := (HB.out.cell (p := ⟨b, o + k * 7 + 1, none⟩) hb0).trans q1
      have p2 : wr.cell? ⟨b, o + k * 7 + 2, none⟩ = some (.int .i64 (aAt l k).which) := (HB.out.cell (p := ⟨b, o + k * 7 + 2, none⟩) hb0).trans q2
      have p3 : wr.cell? ⟨b, o + k * 7 + 3, none⟩ = some (.int .i64 (aAt l k).k) := (HB.out.cell (p := ⟨b, o + k * 7 + 3, none⟩) hb0).trans q3
      have p4 : wr.cell? ⟨b, o + k * 7 + 4, none⟩ = some (.int .i64 (aAt l k).n) := (HB.out.cell (p := ⟨b, o + k * 7 + 4, none⟩) hb0).trans q4
      have p5 : wr.cell? ⟨b, o + k * 7 + 5, none⟩ = some (.int .i64 (aAt l k).pos) := (HB.out.cell (p := ⟨b, o + k * 7 + 5, none⟩) hb0).trans q5
      have p6 : wr.cell? ⟨b, o + k * 7 + 6, none⟩ = some (.slice A1 (aAt l k).b.length c1) := (HB.out.cell (p := ⟨b, o + k * 7 + 6, none⟩) hb0).trans q6
      have HZ := Lib.hid hz1
      have h99 := H9.out k
      have HBB := Lib.hid (HBY.out k)
      have hlt1 : b < wr.heap.size := Nat.lt_of_lt_of_le hb0 HB.out.size
      dsimp only at HO
      have HNX2 : Hid (∀ v' w', AcO 30 w' w.heap.size w.heap.size v' (l.take k ++ [⟨(aAt l k).kind, (aAt l k).yes, (aAt l k).which, (aAt l k).k, (aAt l k).n, (aAt l k).pos, (aAt l k).b⟩]) → Below w.heap.size w w' → AcR 30 w (fun j => l.take j) n (.int .i64 ((k : Int) + 1)) v' w') := HNX
      clear HNX
      have HNX := HNX2
      clear HNX2
      obtain ⟨bb, hbb⟩ : ∃ bb, (aAt l k).b = bb := ⟨_, rfl⟩
      rw [hbb] at p6 hs1 HNX h99 HBB
      obtain ⟨n1, hn1⟩ : ∃ n1, bb.length = n1 := ⟨_, rfl⟩
      have HN1 := Lib.hid hn1
      rw [hn1] at p6 hs1 h99
      have HS1 := Lib.hid hs1
      clear q0 q1 q2 q3 q4 q5 q6 hs1 hz1 hb0 hbb hn1
      generalize (aAt l k).kind = kd at *
      generalize (aAt l k).yes = y at *
      generalize (aAt l k).which = z1 at *
      generalize (aAt l k).k = z2 at *
      generalize (aAt l k).n = z3 at *
      generalize (aAt l k).pos = z4 at *
      generalize l.take k = pre at *
      go_upto_region 5 with (fail)
      have HA5 : Hid (After wr (wr.alloc (.cells #[.int .i64 kd, .bool y, .int .i64 z1, .int .i64 z2, .int .i64 z3, .int .i64 z4, .slice A1 n1 c1] 26))) := Lib.hid (al1 _ _)
      have HX5 := Lib.hid (heap_alloc_new wr (.cells #[.int .i64 kd, .bool y, .int .i64 z1, .int .i64 z2, .int .i64 z3, .int .i64 z4, .slice A1 n1 c1] 26))
      have HS5 : Hid ((wr.alloc (.cells #[.int .i64 kd, .bool y, .int .i64 z1, .int .i64 z2, .int .i64 z3, .int .i64 z4, .slice A1 n1 c1] 26)).heap.size = wr.heap.size + 1) := Lib.hid (by simp)
      generalize wr.alloc (.cells #[.int .i64 kd, .bool y, .int .i64 z1, .int .i64 z2, .int .i64 z3, .int .i64 z4, .slice A1 n1 c1] 26) = W5 at *
      have KS : Hid (∀ w', After W5 w' → w'.cell? ⟨wr.heap.size, 0, none⟩ = some (.int .i64 kd) ∧ w'.cell? ⟨wr.heap.size, 1, none⟩ = some (.bool y) ∧ w'.cell? ⟨wr.heap.size, 2, none⟩ = some (.int .i64 z1) ∧ w'.cell? ⟨wr.heap.size, 3, none⟩ = some (.int .i64 z2) ∧ w'.cell? ⟨wr.heap.size, 4, none⟩ = some (.int .i64 z3) ∧ w'.cell? ⟨wr.heap.size, 5, none⟩ = some (.int .i64 z4) ∧ w'.cell? ⟨wr.heap.size, 6, none⟩ = some (.slice A1 n1 c1)) := Lib.hid (fun w' hw => ⟨blk_cell ((Below.block hw _ (by rw [HS5.out]; omega)).trans HX5.out) 0, blk_cell ((Below.block hw _ (by rw [HS5.out]; omega)).trans HX5.out) 1, blk_cell ((Below.block hw _ (by rw [HS5.out]; omega)).trans HX5.out) 2, blk_cell ((Below.block hw _ (by rw [HS5.out]; omega)).trans HX5.out) 3, blk_cell ((Below.block hw _ (by rw [HS5.out]; omega)).trans HX5.out) 4, blk_cell ((Below.block hw _ (by rw [HS5.out]; omega)).trans HX5.out) 5, blk_cell ((Below.block hw _ (by rw [HS5.out]; omega)).trans HX5.out) 6⟩)
      have HA4 : Hid (After W5 (W5.alloc (.cells #[] 5)).drew) := Lib.hid ((After.drew W5).alloc (Nat.le_refl _) _)
      have HO4 : Hid (Own (W5.alloc (.cells #[] 5)).drew W5.heap.size (.slice (some ⟨W5.heap.size, 0, none⟩) 0 0) []) := Lib.hid (Own.blk (Nat.le_refl _) (heap_alloc_new W5.drew _) rfl (by omega) (by unfold maxLen; omega) rfl rfl)
      have HS4 : Hid (BS (W5.alloc (.cells #[] 5)).drew w.heap.size A1 n1 c1 bb) := Lib.hid (HS1.out.below (HB.out.trans ((Below.mono HA5.out HB.out.size).trans (Below.mono HA4.out (by have := HB.out.size; have := HS5.out; omega)))))
      have hsz4 : W5.heap.size ≤ (W5.alloc (.cells #[] 5)).drew.heap.size := HA4.out.size
      have HN4 : Hid (([] : List Nat).length + n1 < 1000000000) := Lib.hid (by simp; omega)
      refine wp_region_F (S := (fun w' => w'.cell? ⟨wr.heap.size, 0, none⟩ = some (.int .i64 kd) ∧ w'.cell? ⟨wr.heap.size, 1, none⟩ = some (.bool y) ∧ w'.cell? ⟨wr.heap.size, 2, none⟩ = some (.int .i64 z1) ∧ w'.cell? ⟨wr.heap.size, 3, none⟩ = some (.int .i64 z2) ∧ w'.cell? ⟨wr.heap.size, 4, none⟩ = some (.int .i64 z3) ∧ w'.cell? ⟨wr.heap.size, 5, none⟩ = some (.int .i64 z4) ∧ w'.cell? ⟨wr.heap.size, 6, none⟩ = some (.slice A1 n1 c1))) [] (by kernel_rfl) (KS.out _ (After.drew W5)) (fun hHeld => ?_)
      refine wpAnyF_take (i := 0) (oi := _) (v := ?_) rfl (by kernel_rfl) (by kernel_rfl) (by kernel_rfl) (by kernel_rfl) (fun _ _ _ h => h) (Or.inl ⟨by rfl, ?_⟩) (by assumption) ?_
      rotate_left 1
      · intro w hSw
        (try dsimp only at hSw)
        (first | (go_simp; done) | (go_simp; with_reducible rfl))
      (try simp only [Act.put, List.getElem_toArray, List.getElem_cons_succ, List.getElem_cons_zero, List.setIfInBounds_toArray, List.set_cons_zero, List.set_cons_succ])
      refine wpAnyF_take (i := 1) (oi := _) (v := ?_) rfl (by kernel_rfl) (by kernel_rfl) (by kernel_rfl) (by kernel_rfl) (fun _ _ _ h => h) (Or.inl ⟨by rfl, ?_⟩) (by assumption) ?_
      rotate_left 1
      · intro w hSw
        (try dsimp only at hSw)
        (first | (go_simp; done) | (go_simp; with_reducible rfl))
      (try simp only [Act.put, List.getElem_toArray, List.getElem_cons_succ, List.getElem_cons_zero, List.setIfInBounds_toArray, List.set_cons_zero, List.set_cons_succ])
      refine wpAnyF_take (i := 2) (oi := _) (v := ?_) rfl (by kernel_rfl) (by kernel_rfl) (by kernel_rfl) (by kernel_rfl) (fun _ _ _ h => h) (Or.inl ⟨by rfl, ?_⟩) (by assumption) ?_
      rotate_left 1
      · intro w hSw
        (try dsimp only at hSw)
        (first | (go_simp; done) | (go_simp; with_reducible rfl))
      (try simp only [Act.put, List.getElem_toArray, List.getElem_cons_succ, List.getElem_cons_zero, List.setIfInBounds_toArray, List.set_cons_zero, List.set_cons_succ])
      refine wpAnyF_take (i := 3) (oi := _) (v := ?_) rfl (by kernel_rfl) (by kernel_rfl) (by kernel_rfl) (by kernel_rfl) (fun _ _ _ h => h) (Or.inl ⟨by rfl, ?_⟩) (by assumption) ?_
      rotate_left 1
      · intro w hSw
        (try dsimp only at hSw)
        (first | (go_simp; done) | (go_simp; with_reducible rfl))
      (try simp only [Act.put, List.getElem_toArray, List.getElem_cons_succ, List.getElem_cons_zero, List.setIfInBounds_toArray, List.set_cons_zero, List.set_cons_succ])
      refine wpAnyF_take (i := 4) (oi := _) (v := ?_) rfl (by kernel_rfl) (by kernel_rfl) (by kernel_rfl) (by kernel_rfl) (fun _ _ _ h => h) (Or.inl ⟨by rfl, ?_⟩) (by assumption) ?_
      rotate_left 1
      · intro w hSw
        (try dsimp only at hSw)
        (first | (go_simp; done) | (go_simp; with_reducible rfl))
      (try simp only [Act.put, List.getElem_toArray, List.getElem_cons_succ, List.getElem_cons_zero, List.setIfInBounds_toArray, List.set_cons_zero, List.set_cons_succ])
      refine wpAnyF_take (i := 5) (oi := _) (v := ?_) rfl (by kernel_rfl) (by kernel_rfl) (by kernel_rfl) (by kernel_rfl) (fun _ _ _ h => h) (Or.inl ⟨by rfl, ?_⟩) (by assumption) ?_
      rotate_left 1
      · intro w hSw
        (try dsimp only at hSw)
        (first | (go_simp; done) | (go_simp; with_reducible rfl))
      (try simp only [Act.put, List.getElem_toArray, List.getElem_cons_succ, List.getElem_cons_zero, List.setIfInBounds_toArray, List.set_cons_zero, List.set_cons_succ])
      refine wpAnyF_take (i := 6) (oi := _) (v := ?_) rfl (by kernel_rfl) (by kernel_rfl) (by kernel_rfl) (by kernel_rfl) (fun _ _ _ h => h) (Or.inl ⟨by rfl, ?_⟩) (by assumption) ?_
      rotate_left 1
      · intro w hSw
        (try dsimp only at hSw)
        (first | (go_simp; done) | (go_simp; with_reducible rfl))
      (try simp only [Act.put, List.getElem_toArray, List.getElem_cons_succ, List.getElem_cons_zero, List.setIfInBounds_toArray, List.set_cons_zero, List.set_cons_succ])
      refine wpAnyF_take (i := 7) (oi := _) (v := ?_) rfl (by kernel_rfl) (by kernel_rfl) (by kernel_rfl) (by kernel_rfl) (fun _ _ _ h => h) (Or.inl ⟨by rfl, ?_⟩) (by assumption) ?_
      rotate_left 1
      · intro w hSw
        (try dsimp only at hSw)
        (first | (go_simp; done) | (go_simp; with_reducible rfl))
      (try simp only [Act.put, List.getElem_toArray, List.getElem_cons_succ, List.getElem_cons_zero, List.setIfInBounds_toArray, List.set_cons_zero, List.set_cons_succ])
      refine wpAnyF_take (i := 8) (oi := _) (v := ?_) rfl (by kernel_rfl) (by kernel_rfl) (by kernel_rfl) (by kernel_rfl) (fun _ _ _ h => h) (Or.inl ⟨by rfl, ?_⟩) (by assumption) ?_
      rotate_left 1
      · intro w hSw
        (try dsimp only at hSw)
        (first | (go_simp; done) | (go_simp; with_reducible rfl))
      (try simp only [Act.put, List.getElem_toArray, List.getElem_cons_succ, List.getElem_cons_zero, List.setIfInBounds_toArray, List.set_cons_zero, List.set_cons_succ])
      refine wpAnyF_take (i := 9) (oi := _) (v := ?_) rfl (by kernel_rfl) (by kernel_rfl) (by kernel_rfl) (by kernel_rfl) (fun _ _ _ h => h) (Or.inl ⟨by rfl, ?_⟩) (by assumption) ?_
      rotate_left 1
      · intro w hSw
        (try dsimp only at hSw)
        (first | (go_simp; done) | (go_simp; with_reducible rfl))
      (try simp only [Act.put, List.getElem_toArray, List.getElem_cons_succ, List.getElem_cons_zero, List.setIfInBounds_toArray, List.set_cons_zero, List.set_cons_succ])
      refine wpAnyF_take (i := 10) (oi := _) (v := ?_) rfl (by kernel_rfl) (by kernel_rfl) (by kernel_rfl) (by kernel_rfl) (fun _ _ _ h => h) (Or.inl ⟨by rfl, ?_⟩) (by assumption) ?_
      rotate_left 1
      · intro w hSw
        (try dsimp only at hSw)
        (first | (go_simp; done) | (go_simp; with_reducible rfl))
      (try simp only [Act.put, List.getElem_toArray, List.getElem_cons_succ, List.getElem_cons_zero, List.setIfInBounds_toArray, List.set_cons_zero, List.set_cons_succ])
      refine wpAnyF_take (i := 11) (oi := _) (v := ?_) rfl (by kernel_rfl) (by kernel_rfl) (by kernel_rfl) (by kernel_rfl) (fun _ _ _ h => h) (Or.inl ⟨by rfl, ?_⟩) (by assumption) ?_
      rotate_left 1
      · intro w hSw
        (try dsimp only at hSw)
        (first | (go_simp; done) | (go_simp; with_reducible rfl))
      (try simp only [Act.put, List.getElem_toArray, List.getElem_cons_succ, List.getElem_cons_zero, List.setIfInBounds_toArray, List.set_cons_zero, List.set_cons_succ])
      refine wpAnyF_take (i := 12) (oi := _) (v := ?_) rfl (by kernel_rfl) (by kernel_rfl) (by kernel_rfl) (by kernel_rfl) (fun _ _ _ h => h) (Or.inl ⟨by rfl, ?_⟩) (by assumption) ?_
      rotate_left 1
      · intro w hSw
        (try dsimp only at hSw)
        (first | (go_simp; done) | (go_simp; with_reducible rfl))
      (try simp only [Act.put, List.getElem_toArray, List.getElem_cons_succ, List.getElem_cons_zero, List.setIfInBounds_toArray, List.set_cons_zero, List.set_cons_succ])
      refine wpAnyF_take (i := 14) (oi := _) (v := ?_) rfl (by kernel_rfl) (by kernel_rfl) (by kernel_rfl) (by kernel_rfl) (fun _ _ _ h => h) (Or.inl ⟨by rfl, ?_⟩) (by assumption) ?_
      rotate_left 1
      · intro w hSw
        (try dsimp only at hSw)
        (first | (go_simp; done) | (go_simp; with_reducible rfl))
      (try simp only [Act.put, List.getElem_toArray, List.getElem_cons_succ, List.getElem_cons_zero, List.setIfInBounds_toArray, List.set_cons_zero, List.set_cons_succ])
      refine wpAnyF_take (i := 15) (oi := _) (v := ?_) rfl (by kernel_rfl) (by kernel_rfl) (by kernel_rfl) (by kernel_rfl) (fun _ _ _ h => h) (Or.inl ⟨by rfl, ?_⟩) (by assumption) ?_
      rotate_left 1
      · intro w hSw
        (try dsimp only at hSw)
        (first | (go_simp; done) | (go_simp; with_reducible rfl))
      (try simp only [Act.put, List.getElem_toArray, List.getElem_cons_succ, List.getElem_cons_zero, List.setIfInBounds_toArray, List.set_cons_zero, List.set_cons_succ])
      refine wpAnyF_ready (rs := [13]) (by kernel_rfl) (by simp) ?_
      refine AllReadyF.cons (o := _) rfl (fun K hK => ?_) AllReadyF.nil
      go_simp
      refine hK.out _ _ (KS.out _ HA4.out) (fun hHeld13 => ?_)
      clear hK K
      (try simp only [Act.put, List.getElem_toArray, List.getElem_cons_succ, List.getElem_cons_zero, List.setIfInBounds_toArray, List.set_cons_zero, List.set_cons_succ])
      refine wpAnyF_ready (rs := [16]) (by kernel_rfl) (by simp) ?_
      refine AllReadyF.cons (o := _) rfl (fun K hK => ?_) AllReadyF.nil
      rw [if_pos (by kernel_rfl)]
      refine step_apps _ (.tmp 25) (.tmp 27) rfl W5.heap.size (.slice (some ⟨W5.heap.size, 0, none⟩) 0 0) [] rfl HO4.out w.heap.size A1 n1 c1 bb rfl HS4.out HZ.out HN4.out hsz4 ?_
      intro v7 w7 hown7 hb7
      have HA7 : Hid (After W5 w7) := Lib.hid (HA4.out.trans hb7)
      have hq7 := hown7.bs (by rw [List.nil_append]; exact HBB.out)
      rw [List.nil_append] at hq7 hown7
      rw [HN1.out] at hq7
      obtain ⟨A7, c7, rfl, _⟩ := hq7
      have HO7 : Hid (Own w7 W5.heap.size (.slice A7 n1 c7) bb) := Lib.hid hown7
      clear hown7 hb7 HO4 HS4 HA4 HN4
      refine hK.out _ _ (KS.out _ HA7.out) (fun hHeld16 => ?_)
      clear hK K
      (try simp only [Act.put, List.getElem_toArray, List.getElem_cons_succ, List.getElem_cons_zero, List.setIfInBounds_toArray, List.set_cons_zero, List.set_cons_succ])
      refine wpAnyF_take (i := 17) (oi := _) (v := ?_) rfl (by kernel_rfl) (by kernel_rfl) (by kernel_rfl) (by kernel_rfl) (fun _ _ _ h => h) (Or.inl ⟨by rfl, ?_⟩) (by assumption) ?_
      rotate_left 1
      · intro w hSw
        (try dsimp only at hSw)
        (first | (go_simp; done) | (go_simp; with_reducible rfl))
      (try simp only [Act.put, List.getElem_toArray, List.getElem_cons_succ, List.getElem_cons_zero, List.setIfInBounds_toArray, List.set_cons_zero, List.set_cons_succ])
      have HA9 : Hid (After W5 (w7.alloc (.cells #[.int .i64 kd, .bool y, .int .i64 z1, .int .i64 z2, .int .i64 z3, .int .i64 z4, .slice A7 n1 c7] 30))) := Lib.hid (HA7.out.alloc (Below.size HA7.out) _)
      refine wpAnyF_ready (rs := [18]) (by kernel_rfl) (by simp) ?_
      refine AllReadyF.cons (o := _) rfl (fun K hK => ?_) AllReadyF.nil
      go_simp
      refine hK.out _ _ (KS.out _ HA9.out) (fun hHeld18 => ?_)
      clear hK K
      (try simp only [Act.put, List.getElem_toArray, List.getElem_cons_succ, List.getElem_cons_zero, List.setIfInBounds_toArray, List.set_cons_zero, List.set_cons_succ])
      have HW7 : Hid (After wr w7) := Lib.hid (HA5.out.next HA7.out)
      have hB7 : w.heap.size ≤ w7.heap.size := Nat.le_trans HB.out.size (Below.size HW7.out)
      have HO7E : Hid (AcO 30 w7 w.heap.size w.heap.size v pre) := Lib.hid (HO.out.below (Nat.le_refl _) HB.out.size HW7.out)
      have HI7 : Hid (EnI w7 w.heap.size w.heap.size A7 c7 bb) := Lib.hid ⟨.inr ⟨by rw [HN1.out]; exact HO7.out.base (by have := HS5.out; have := HB.out.size; omega), HBB.out⟩, own_zero HO7.out⟩
      have HV2 : Hid (∀ g, v.ownBlock = some g → w.heap.size ≤ g ∧ g < wr.heap.size) := Lib.hid (by obtain ⟨vs, h, _⟩ := HO.out; exact fun g e => World.ownsRow.lt h g e)
      have HB7 : Hid (Below w.heap.size w w7) := Lib.hid (HB.out.trans (Below.mono HW7.out HB.out.size))
      refine wpAnyF_ready (rs := [19]) (by kernel_rfl) (by simp) ?_
      refine AllReadyF.cons (o := _) rfl (fun K hK => ?_) AllReadyF.nil
      rw [if_pos (by kernel_rfl)]
      refine step_appA 30 31 Tryd.underlying31 (by kernel_rfl) (by decide) w7 (.tmp 12) (.tmp 30) rfl w.heap.size w.heap.size (Nat.le_refl _) v pre ⟨kd, y, z1, z2, z3, z4, bb⟩ A7 c7 n1 HN1.out rfl HO7E.out HTL.out rfl HI7.out hB7 ?_
      intro v10 w10 hO10 hb10 hfar10
      have HK10 : Hid (w10.cell? ⟨wr.heap.size, 0, none⟩ = some (.int .i64 kd) ∧ w10.cell? ⟨wr.heap.size, 1, none⟩ = some (.bool y) ∧ w10.cell? ⟨wr.heap.size, 2, none⟩ = some (.int .i64 z1) ∧ w10.cell? ⟨wr.heap.size, 3, none⟩ = some (.int .i64 z2) ∧ w10.cell? ⟨wr.heap.size, 4, none⟩ = some (.int .i64 z3) ∧ w10.cell? ⟨wr.heap.size, 5, none⟩ = some (.int .i64 z4) ∧ w10.cell? ⟨wr.heap.size, 6, none⟩ = some (.slice A1 n1 c1)) := Lib.hid (by
        have hne : v.ownBlock ≠ some wr.heap.size := fun e => by have := (HV2.out _ e).2; omega
        have hx : w10.heap[wr.heap.size]? = some (.cells #[.int .i64 kd, .bool y, .int .i64 z1, .int .i64 z2, .int .i64 z3, .int .i64 z4, .slice A1 n1 c1] 26 (0, 0)) := (hfar10 _ (by have := Below.size HA7.out; have := HS5.out; omega) hne).trans ((Below.block HA7.out _ (by have := HS5.out; omega)).trans HX5.out)
        exact ⟨blk_cell hx 0, blk_cell hx 1, blk_cell hx 2, blk_cell hx 3, blk_cell hx 4, blk_cell hx 5, blk_cell hx 6⟩)
      have HG : Hid (AcR 30 w (fun j => l.take j) n (.int .i64 ((k : Int) + 1)) v10 w10) := Lib.hid (HNX.out v10 w10 hO10 (HB7.out.trans hb10))
      clear hO10 hb10 hfar10
      refine hK.out _ _ (HK10.out) (fun hHeld19 => ?_)
      clear hK K
      (try simp only [Act.put, List.getElem_toArray, List.getElem_cons_succ, List.getElem_cons_zero, List.setIfInBounds_toArray, List.set_cons_zero, List.set_cons_succ])
      refine wpAnyF_take (i := 20) (oi := _) (v := ?_) rfl (by kernel_rfl) (by kernel_rfl) (by kernel_rfl) (by kernel_rfl) (fun _ _ _ h => h) (Or.inl ⟨by rfl, ?_⟩) (by assumption) ?_
      rotate_left 1
      · intro w hSw
        (try dsimp only at hSw)
        (first | (go_simp; done) | (go_simp; with_reducible rfl))
      (try simp only [Act.put, List.getElem_toArray, List.getElem_cons_succ, List.getElem_cons_zero, List.setIfInBounds_toArray, List.set_cons_zero, List.set_cons_succ])
      refine wpAnyF_done (by kernel_rfl) ?_ _
      go_wp2
      go_roundw
      case rel => exact HG.out
      case measure => simp [intOf]; omega
    · have hmI : k = n := by omega
      have HF : Hid (GivesA 30 w l (.returned v) wr) := Lib.hid ⟨v, rfl, by
        have e : l.take k = l := List.take_of_length_le (by rw [HL.out]; omega)
        have h := HO.out
        dsimp only at h
        rw [e] at h; exact h, HB.out⟩
      clear HO
      go_wp2
      go_ret
      exact HF.out
end Go.Proofs.YtcaogiaoabdkdaaDoor
