/-
  Cut over an older base; acts that are appended all at once; acts that are cut.
-/
import Derived.Test.YtkgmggjlnibgmaaScR
namespace Go.Proofs.Ytkgmggjlnibgmaa
open Go.RowKit Go Go.WideShapes
set_option linter.unusedVariables false
set_option linter.unusedSimpArgs false
set_option maxRecDepth 100000
def GivesB (t : TypeId) (w0 w : World) (l : List Ac) (e : Ending) (w' : World) : Prop := ∃ v, e = .returned v ∧ AcO t w' w0.heap.size w.heap.size v l ∧ Below w.heap.size w w'
def AcRB (t : TypeId) (w0 w : World) (f : Nat → List Ac) (m : Nat) (iv v : Value) (wr : World) : Prop := ∃ (k : Nat) (x : Value), iv = .int .i64 (k : Int) ∧ x = v ∧ k ≤ m ∧ AcO t wr w0.heap.size w.heap.size x (f k) ∧ Below w.heap.size w wr
set_option maxHeartbeats 4000000 in
theorem cut27_base (w0 : World) (A : Option Addr) (n c m : Nat) (l : List Ac) (w : World) (hv : AcV w0 A n l) (hw0 : Below w0.heap.size w0 w) (hn9 : n ≤ 9223372036854775807) (hm : m ≤ 10) :
    Calls Try.prog 7 #[.slice A n c, .int .i64 (m : Int)] w (GivesB 26 w0 w (cutL m l)) := by
  have HV := Lib.hid hv
  have HW0 := Lib.hid hw0
  clear hw0
  have HL := Lib.hid hv.1
  have HR : Hid (AcRB 26 w0 w (fun j => (l.take j).map cutA) (min n m) (.int .i64 0) (.slice none 0 0) w) := Lib.hid ⟨0, _, rfl, rfl, by omega, AcO.nil _ _ _ _, Below.refl _ _⟩
  clear hv
  go_enter Try.func7, Try.ntmps7
  go_wp2_with fail
  go_loopw [10, 5] (fun iv v wr => AcRB 26 w0 w (fun j => (l.take j).map cutA) (min n m) iv v wr) (fun iv _ _ => (n - intOf iv).toNat)
  case atStart => exact HR.out
  case round =>
    clear HR
    obtain ⟨k, v, rfl, rfl, hk, hO, hb⟩ := hrel
    have HO := Lib.hid hO
    have HB := Lib.hid hb
    clear hO hb
    by_cases hlt : k < n
    · by_cases hlm : k < m
      · have HNX : Hid (∀ v' w', AcO 26 w' w0.heap.size w.heap.size v' ((l.take k).map cutA ++ [cutA (aAt l k)]) → Below w.heap.size w w' → AcRB 26 w0 w (fun j => (l.take j).map cutA) (min n m) (.int .i64 ((k : Int) + 1)) v' w') := Lib.hid (fun v' w' h1 h2 => ⟨k + 1, v', rfl, rfl, by omega, by dsimp only; rw [take_map_succ (by rw [HL.out]; exact hlt)]; exact h1, h2⟩)
        have HTL : Hid (((l.take k).map cutA).length < 100000) := Lib.hid (by rw [List.length_map, List.length_take]; omega)
        obtain ⟨b, o, A1, c1, rfl, hb0, q0, q1, q2, q3, q4, q5, q6, hs1, hz1⟩ := HV.out.at_ (show k < n by omega)
        have p0 : wr.cell? ⟨b, o + k * 7, none⟩ = some (.int .i64 (aAt l k).kind) := ((HW0.out.trans (HB.out.mono HW0.out.size)).cell (p := ⟨b, o + k * 7, none⟩) hb0).trans q0
        have p1 : wr.cell? ⟨b, o + k * 7 + 1, none⟩ = some (.bool (aAt l k).yes) := ((HW0.out.trans (HB.out.mono HW0.out.size)).cell (p := ⟨b, o + k * 7 + 1, none⟩) hb0).trans q1
        have p2 : wr.cell? ⟨b, o + k * 7 + 2, none⟩ = some (.int .i64 (aAt l k).which) := ((HW0.out.trans (HB.out.mono HW0.out.size)).cell (p := ⟨b, o + k * 7 + 2, none⟩) hb0).trans q2
        have p3 : wr.cell? ⟨b, o + k * 7 + 3, none⟩ = some (.int .i64 (aAt l k).k) := ((HW0.out.trans (HB.out.mono HW0.out.size)).cell (p := ⟨b, o + k * 7 + 3, none⟩) hb0).trans q3
        have p4 : wr.cell? ⟨b, o + k * 7 + 4, none⟩ = some (.int .i64 (aAt l k).n) := ((HW0.out.trans (HB.out.mono HW0.out.size)).cell (p := ⟨b, o + k * 7 + 4, none⟩) hb0).trans q4
        have p5 : wr.cell? ⟨b, o + k * 7 + 5, none⟩ = some (.int .i64 (aAt l k).pos) := ((HW0.out.trans (HB.out.mono HW0.out.size)).cell (p := ⟨b, o + k * 7 + 5, none⟩) hb0).trans q5
        have p6 : wr.cell? ⟨b, o + k * 7 + 6, none⟩ = some (.slice A1 (aAt l k).b.length c1) := ((HW0.out.trans (HB.out.mono HW0.out.size)).cell (p := ⟨b, o + k * 7 + 6, none⟩) hb0).trans q6
        have HZ := Lib.hid hz1
        have hlt1 : b < wr.heap.size := Nat.lt_of_lt_of_le hb0 (HW0.out.trans (HB.out.mono HW0.out.size)).size
        have hmI : ¬ (m : Int) ≤ (k : Int) := by omega
        dsimp only at HO
        by_cases hcl : (aAt l k).b.length ≤ 1030
        · rw [cut_short hcl] at HNX
          obtain ⟨bb, hbb⟩ : ∃ bb, (aAt l k).b = bb := ⟨_, rfl⟩
          rw [hbb] at p6 hs1 HNX hcl
          obtain ⟨n1, hn1⟩ : ∃ n1, bb.length = n1 := ⟨_, rfl⟩
          have HN1 := Lib.hid hn1
          rw [hn1] at p6 hs1 hcl
          have HS1 := Lib.hid hs1
          clear q0 q1 q2 q3 q4 q5 q6 hs1 hz1 hb0 hbb hn1
          generalize (aAt l k).kind = kd at *
          generalize (aAt l k).yes = y at *
          generalize (aAt l k).which = z1 at *
          generalize (aAt l k).k = z2 at *
          generalize (aAt l k).n = z3 at *
          generalize (aAt l k).pos = z4 at *
          generalize (l.take k).map cutA = pre at *
          have hcI : ¬ (1030 : Int) < (n1 : Int) := by omega
          have HB5 : Hid (Below wr.heap.size wr (wr.alloc (.cells #[.int .i64 kd, .bool y, .int .i64 z1, .int .i64 z2, .int .i64 z3, .int .i64 z4, .slice A1 n1 c1] 26))) := Lib.hid (al1 _ _)
          have HS5 : Hid (w.heap.size ≤ (wr.alloc (.cells #[.int .i64 kd, .bool y, .int .i64 z1, .int .i64 z2, .int .i64 z3, .int .i64 z4, .slice A1 n1 c1] 26)).heap.size) := Lib.hid (Nat.le_trans HB.out.size HB5.out.size)
          have HO5 : Hid (AcO 26 (wr.alloc (.cells #[.int .i64 kd, .bool y, .int .i64 z1, .int .i64 z2, .int .i64 z3, .int .i64 z4, .slice A1 n1 c1] 26)) w0.heap.size w.heap.size v pre) := Lib.hid (HO.out.below HW0.out.size HB.out.size HB5.out)
          have HI5 : Hid (EnI (wr.alloc (.cells #[.int .i64 kd, .bool y, .int .i64 z1, .int .i64 z2, .int .i64 z3, .int .i64 z4, .slice A1 n1 c1] 26)) w0.heap.size w.heap.size A1 c1 bb) := Lib.hid ⟨.inl (by rw [HN1.out]; exact (HS1.out).below (HW0.out.trans ((HB.out.trans (HB5.out.mono HB.out.size)).mono HW0.out.size))), HZ.out⟩
          have HSZ5 : Hid ((wr.alloc (.cells #[.int .i64 kd, .bool y, .int .i64 z1, .int .i64 z2, .int .i64 z3, .int .i64 z4, .slice A1 n1 c1] 26)).heap.size = wr.heap.size + 1) := Lib.hid (by simp)
          go_wp2_with (at_builtin; refine wp_appA 26 22 Try.underlying22 (by kernel_rfl) (by decide) _ rfl (.tmp 26) (.tmp 28) rfl w0.heap.size w.heap.size HW0.out.size v pre kd z1 z2 z3 z4 y bb A1 c1 n1 HN1.out rfl HO5.out HTL.out (by rw [HSZ5.out]; rfl) HI5.out HS5.out ?_; intro v9 w9 ho9 hd9 hf9; have HG : Hid (AcRB 26 w0 w (fun j => (l.take j).map cutA) (min n m) (.int .i64 ((k : Int) + 1)) v9 w9) := Lib.hid (HNX.out v9 w9 ho9 (HB.out.trans ((HB5.out.mono HB.out.size).trans (hd9.mono (Nat.le_refl _))))); clear ho9 hd9 hf9)
          go_roundw
          case rel => exact HG.out
          case measure => simp [intOf]; omega
        · have hct : (aAt l k).b.length = (aAt l k).b.length := rfl
          unfold cutA at HNX
          obtain ⟨bb, hbb⟩ : ∃ bb, (aAt l k).b.take 1030 = bb := ⟨_, rfl⟩
          have HT1 : Hid (BS w0 w0.heap.size A1 1030 c1 bb) := Lib.hid (by rw [← hbb]; exact hs1.take (by omega))
          have HT2 : Hid (bb.length = 1030) := Lib.hid HT1.out.len
          have HNX2 : Hid (∀ v' w', AcO 26 w' w0.heap.size w.heap.size v' ((l.take k).map cutA ++ [⟨(aAt l k).kind, (aAt l k).yes, (aAt l k).which, (aAt l k).k, (aAt l k).n, (aAt l k).pos, bb⟩]) → Below w.heap.size w w' → AcRB 26 w0 w (fun j => (l.take j).map cutA) (min n m) (.int .i64 ((k : Int) + 1)) v' w') := Lib.hid (fun v' w' h1 h2 => HNX.out v' w' (by rw [hbb]; exact h1) h2)
          clear HNX
          have HNX := HNX2
          clear HNX2
          obtain ⟨n1, hn1⟩ : ∃ n1, (aAt l k).b.length = n1 := ⟨_, rfl⟩
          rw [hn1] at p6 hs1 hcl
          have hcap := hs1.cap
          have hcc : 1030 ≤ c1 := by omega
          clear q0 q1 q2 q3 q4 q5 q6 hs1 hz1 hb0 hbb hn1 hct
          generalize (aAt l k).kind = kd at *
          generalize (aAt l k).yes = y at *
          generalize (aAt l k).which = z1 at *
          generalize (aAt l k).k = z2 at *
          generalize (aAt l k).n = z3 at *
          generalize (aAt l k).pos = z4 at *
          generalize (l.take k).map cutA = pre at *
          have hcI : (1030 : Int) < (n1 : Int) := by omega
          have HB5 : Hid (Below wr.heap.size wr (wr.alloc (.cells #[.int .i64 kd, .bool y, .int .i64 z1, .int .i64 z2, .int .i64 z3, .int .i64 z4, .slice A1 1030 c1] 26))) := Lib.hid (al1 _ _)
          have HS5 : Hid (w.heap.size ≤ (wr.alloc (.cells #[.int .i64 kd, .bool y, .int .i64 z1, .int .i64 z2, .int .i64 z3, .int .i64 z4, .slice A1 1030 c1] 26)).heap.size) := Lib.hid (Nat.le_trans HB.out.size HB5.out.size)
          have HO5 : Hid (AcO 26 (wr.alloc (.cells #[.int .i64 kd, .bool y, .int .i64 z1, .int .i64 z2, .int .i64 z3, .int .i64 z4, .slice A1 1030 c1] 26)) w0.heap.size w.heap.size v pre) := Lib.hid (HO.out.below HW0.out.size HB.out.size HB5.out)
          have HI5 : Hid (EnI (wr.alloc (.cells #[.int .i64 kd, .bool y, .int .i64 z1, .int .i64 z2, .int .i64 z3, .int .i64 z4, .slice A1 1030 c1] 26)) w0.heap.size w.heap.size A1 c1 bb) := Lib.hid ⟨.inl (by rw [HT2.out]; exact (HT1.out).below (HW0.out.trans ((HB.out.trans (HB5.out.mono HB.out.size)).mono HW0.out.size))), HZ.out⟩
          have HSZ5 : Hid ((wr.alloc (.cells #[.int .i64 kd, .bool y, .int .i64 z1, .int .i64 z2, .int .i64 z3, .int .i64 z4, .slice A1 1030 c1] 26)).heap.size = wr.heap.size + 1) := Lib.hid (by simp)
          go_wp2_with (at_builtin; refine wp_appA 26 22 Try.underlying22 (by kernel_rfl) (by decide) _ rfl (.tmp 26) (.tmp 28) rfl w0.heap.size w.heap.size HW0.out.size v pre kd z1 z2 z3 z4 y bb A1 c1 1030 HT2.out rfl HO5.out HTL.out (by rw [HSZ5.out]; rfl) HI5.out HS5.out ?_; intro v9 w9 ho9 hd9 hf9; have HG : Hid (AcRB 26 w0 w (fun j => (l.take j).map cutA) (min n m) (.int .i64 ((k : Int) + 1)) v9 w9) := Lib.hid (HNX.out v9 w9 ho9 (HB.out.trans ((HB5.out.mono HB.out.size).trans (hd9.mono (Nat.le_refl _))))); clear ho9 hd9 hf9)
          go_roundw
          case rel => exact HG.out
          case measure => simp [intOf]; omega
      · have hkm : k = m := by omega
        obtain ⟨b, o, A1, c1, rfl, hb0, q0, q1, q2, q3, q4, q5, q6, hs1, hz1⟩ := HV.out.at_ (show k < n by omega)
        have p0 : wr.cell? ⟨b, o + k * 7, none⟩ = some (.int .i64 (aAt l k).kind) := ((HW0.out.trans (HB.out.mono HW0.out.size)).cell (p := ⟨b, o + k * 7, none⟩) hb0).trans q0
        have p1 : wr.cell? ⟨b, o + k * 7 + 1, none⟩ = some (.bool (aAt l k).yes) := ((HW0.out.trans (HB.out.mono HW0.out.size)).cell (p := ⟨b, o + k * 7 + 1, none⟩) hb0).trans q1
        have p2 : wr.cell? ⟨b, o + k * 7 + 2, none⟩ = some (.int .i64 (aAt l k).which) := ((HW0.out.trans (HB.out.mono HW0.out.size)).cell (p := ⟨b, o + k * 7 + 2, none⟩) hb0).trans q2
        have p3 : wr.cell? ⟨b, o + k * 7 + 3, none⟩ = some (.int .i64 (aAt l k).k) := ((HW0.out.trans (HB.out.mono HW0.out.size)).cell (p := ⟨b, o + k * 7 + 3, none⟩) hb0).trans q3
        have p4 : wr.cell? ⟨b, o + k * 7 + 4, none⟩ = some (.int .i64 (aAt l k).n) := ((HW0.out.trans (HB.out.mono HW0.out.size)).cell (p := ⟨b, o + k * 7 + 4, none⟩) hb0).trans q4
        have p5 : wr.cell? ⟨b, o + k * 7 + 5, none⟩ = some (.int .i64 (aAt l k).pos) := ((HW0.out.trans (HB.out.mono HW0.out.size)).cell (p := ⟨b, o + k * 7 + 5, none⟩) hb0).trans q5
        have p6 : wr.cell? ⟨b, o + k * 7 + 6, none⟩ = some (.slice A1 (aAt l k).b.length c1) := ((HW0.out.trans (HB.out.mono HW0.out.size)).cell (p := ⟨b, o + k * 7 + 6, none⟩) hb0).trans q6
        have hlt1 : b < wr.heap.size := Nat.lt_of_lt_of_le hb0 (HW0.out.trans (HB.out.mono HW0.out.size)).size
        have hmI : (m : Int) ≤ (k : Int) := by omega
        dsimp only at HO
        have HF : Hid (∀ o, GivesB 26 w0 w (cutL m l) (.returned v) (wr.alloc o)) := Lib.hid (fun o => ⟨v, rfl, by
          have e : (l.take k).map cutA = cutL m l := by unfold cutL; rw [hkm]
          rw [← e]; exact HO.out.below HW0.out.size HB.out.size (al1 _ _), HB.out.trans ((al1 _ _).mono HB.out.size)⟩)
        obtain ⟨n1, hn1⟩ : ∃ n1, (aAt l k).b.length = n1 := ⟨_, rfl⟩
        rw [hn1] at p6
        clear q0 q1 q2 q3 q4 q5 q6 hs1 hz1 hb0 hkm hn1 HO
        generalize (aAt l k).kind = kd at *
        generalize (aAt l k).yes = y at *
        generalize (aAt l k).which = z1 at *
        generalize (aAt l k).k = z2 at *
        generalize (aAt l k).n = z3 at *
        generalize (aAt l k).pos = z4 at *
        go_wp2
        go_ret
        exact HF.out _
    · have hmI : k = n := by omega
      have HF : Hid (GivesB 26 w0 w (cutL m l) (.returned v) wr) := Lib.hid ⟨v, rfl, by
        have e : (l.take k).map cutA = cutL m l := by unfold cutL; rw [List.take_of_length_le (by rw [HL.out]; omega), List.take_of_length_le (by rw [HL.out]; omega)]
        rw [← e]; exact HO.out, HB.out⟩
      clear HO
      go_wp2
      go_ret
      exact HF.out
theorem AcO.base {t : TypeId} {w : World} {B0 B B' : Nat} {v : Value} {l : List Ac} (h : AcO t w B0 B v l) (hB : B' ≤ B) : AcO t w B0 B' v l := by
  obtain ⟨vs, ⟨h1, h2⟩, h3⟩ := h
  refine ⟨vs, ⟨h1, ?_⟩, fun i hi => ?_⟩
  · rcases h2 with h2 | ⟨g, cap, cur, e1, e2, e3⟩
    · exact .inl h2
    · exact .inr ⟨g, cap, cur, e1, Nat.le_trans hB e2, e3⟩
  · obtain ⟨A, c, k1, k2, k3⟩ := h3 i hi
    exact ⟨A, c, k1, k2.imp id (fun q => ⟨q.1.base hB, q.2⟩), k3⟩
theorem aAt_app_ge {l m : List Ac} {i : Nat} (h : l.length ≤ i) : aAt (l ++ m) i = aAt m (i - l.length) := by simp [aAt, List.getD, List.getElem?_append_right h]
theorem acL_one (a : Ac) (A : Option Addr) (n c : Nat) : ∀ u ∈ acL a A n c, u.oneCell' = true := by
  intro u hu
  simp [acL] at hu
  rcases hu with rfl | rfl | rfl | rfl | rfl | rfl | rfl <;> rfl
theorem acL_at (a : Ac) (A : Option Addr) (n c : Nat) {r : Nat} (h : r < 7) : ∃ u, (acL a A n c)[r]? = some u := ⟨_, List.getElem?_eq_getElem (by simpa [acL] using h)⟩
/-- a row of acts is appended -/
theorem wp_appAs {ops : Array Oper} {rest : List Oper} {o : Oper} {a : Act} {Q : Exit → Act → World → Prop} (te ts : TypeId) (hts : Try.prog.underlying ts = some (.slice te))
    (hte : (Try.prog.info? te).map (fun i => (i.zero, i.size, i.bytes)) = some (some (.agg #[.int .i64 0, .bool false, .int .i64 0, .int .i64 0, .int .i64 0, .int .i64 0, .slice none 0 0]), 7, 72)) (hne : te ≠ 5) (W : World) (hgd : o.guard = none) (s x : Operand)
    (ho : o.op = .call { callee := .builtin .append, args := #[s, x], argTypes := #[ts, ts] })
    (B0 B : Nat) (h0 : B0 ≤ B) (v v2 : Value) (l m : List Ac) (hs : a.eval s = v) (hown : AcO te W B0 B v l) (hx : a.eval x = v2) (hm : AcO te W B0 B v2 m) (hl : l.length + m.length < 100000) (hB : B ≤ W.heap.size)
    (h : ∀ v' w', AcO te w' B0 B v' (l ++ m) → Below B W w' → wpList Try.prog ops Q rest (a.put o.dst v') w') :
    wpList Try.prog ops Q (o :: rest) a W := by
  refine wpList_plain hgd fun K0 hK => ?_
  obtain ⟨vs, hr, hit⟩ := id hown
  obtain ⟨vs2, hr2, hit2⟩ := id hm
  obtain ⟨i0, hi, hz0, hz1, hz2⟩ := info_parts hte
  obtain ⟨q1, q2⟩ := id hr2
  rcases q2 with ⟨rfl, hn0⟩ | ⟨g, cap, cur, rfl, hg, hh, hn, hmm, hsz, ht⟩
  · have hm0 : m = [] := List.eq_nil_of_length_eq_zero hn0
    subst hm0
    have hrun := run_append_owned_none (P := Try.prog) (w := W) B ts o.type te i0 7 hts hi v l.length vs hr
    unfold Oper.wp
    simp [execOp, ho, resolve, invoke, builtin, hs, hx, hrun, Result.andThen]
    exact hK _ _ (h v W (by rw [List.append_nil]; exact hown) (Below.refl _ _))
  · refine wp_append_own _ s x ts ho B te i0 (.agg #[.int .i64 0, .bool false, .int .i64 0, .int .i64 0, .int .i64 0, .int .i64 0, .slice none 0 0]) 7 72 hts hi hz0 hz1 hz2 rfl (by decide) v l.length vs hs hr ⟨g, 0, none⟩ m.length cap
      vs2 hx q1 ?_ ?_ (by unfold maxLen; omega) (by omega) hB ?_
    · intro j u hj
      have hj7 : j < m.length * 7 := by have := (List.getElem?_eq_some_iff.mp hj).1; omega
      rw [Go.WideShapes.add_plain, Nat.zero_add, blk_cell hh j]
      rw [← ht, List.getElem?_take_of_lt hj7] at hj
      simpa using hj
    · intro u hu
      obtain ⟨j, hj, rfl⟩ := List.getElem_of_mem hu
      have hq : j / 7 < m.length := by omega
      obtain ⟨A, c, k1, _⟩ := hit2 (j / 7) hq
      obtain ⟨u, hu2⟩ := acL_at (aAt m (j / 7)) A (aAt m (j / 7)).b.length c (r := j % 7) (by omega)
      have h3 := k1 (j % 7) u hu2
      have e : j / 7 * 7 + j % 7 = j := by omega
      rw [e, List.getElem?_eq_getElem hj] at h3
      rw [Option.some.inj h3]
      exact acL_one _ _ _ _ _ (List.mem_of_getElem? hu2)
    · intro v' w1 hown' hgr _
      have hrow : ∀ g, v.ownBlock = some g → B ≤ g ∧ ∃ cs, W.heap[g]? = some (.cells cs te (0, 0)) := fun g e => ⟨(World.ownsRow.lt hr g e).1, own_rows hr g e⟩
      have hkeep : ∀ A2 c2 l2, EnI W B0 B A2 c2 l2 → EnI w1 B0 B A2 c2 l2 := fun A2 c2 l2 h2 => h2.grown h0 hB hgr hrow hne
      refine hK _ _ (h v' w1 ⟨vs ++ vs2, by rw [List.length_append]; exact hown', fun i hi2 => ?_⟩ ((Below.refl B W).grown hgr hB (fun k hk => (hrow k hk).1)))
      have hvl : vs.length = l.length * 7 := hr.1
      by_cases hlt : i < l.length
      · obtain ⟨A2, c2, k1, k3⟩ := hit i hlt
        rw [aAt_app_lt hlt]
        refine ⟨A2, c2, fun j u hj => ?_, hkeep _ _ _ k3⟩
        have := k1 j u hj
        have hj7 : i * 7 + j < vs.length := (List.getElem?_eq_some_iff.mp this).1
        rw [List.getElem?_append_left hj7]; exact this
      · rw [aAt_app_ge (by omega)]
        obtain ⟨A2, c2, k1, k3⟩ := hit2 (i - l.length) (by rw [List.length_append] at hi2; omega)
        refine ⟨A2, c2, fun j u hj => ?_, hkeep _ _ _ k3⟩
        have := k1 j u hj
        rw [List.getElem?_append_right (by omega), show i * 7 + j - vs.length = (i - l.length) * 7 + j by omega]
        exact this
/-- a slice of acts, cut in front -/
def cut7 (A : Option Addr) (c k : Nat) : Option Addr := if c = k then A else A.map (·.add (k * 7))
theorem run_cut7 {P : Program} (t e : TypeId) (ht : P.underlying t = some (.slice e)) (hi : (P.info? e).map (·.size) = some 7) (A : Option Addr) (n c k : Nat) (hk : k ≤ n) (hn : n ≤ c) (w : World) :
    (Instr.slice t (.slice A n c) (some (.int .i64 (k : Int))) none none).run P w = .ok (.slice (cut7 A c k) (n - k) (c - k)) w := by
  obtain ⟨i, hi', hz⟩ := Option.map_eq_some_iff.mp hi
  unfold cut7
  simp [Instr.slice, Instr.sliceBounds, Instr.sliceBound, run_underlying ht, asIntOf, go_sem, sizeOf, typeInfo, hi', hz]
  intro h
  omega
theorem AcV.drop7 {w : World} {A : Option Addr} {n c : Nat} {l : List Ac} (h : AcV w A n l) (hn : n ≤ c) {k : Nat} (hk : k ≤ n) : AcV w (cut7 A c k) (n - k) (l.drop k) := by
  refine ⟨by rw [List.length_drop, h.1], fun h0 => ?_⟩
  obtain ⟨b, o, rfl, h1⟩ := h.2 (by omega)
  refine ⟨b, o + k * 7, ?_, h1.1, fun i hi => ?_⟩
  · unfold cut7
    rw [if_neg (by omega)]
    simp [Go.WideShapes.add_plain]
  · have hl : i < (l.drop k).length := hi
    rw [List.length_drop, h.1] at hl
    have e : aAt (l.drop k) i = aAt l (k + i) := by simp [aAt, List.getD, List.getElem?_drop]
    rw [e]
    obtain ⟨A2, c2, k1, k2⟩ := h1.2 (k + i) (by rw [h.1]; omega)
    refine ⟨A2, c2, fun j u hj => ?_, k2⟩
    have := k1 j u hj
    rw [show o + k * 7 + i * 7 + j = o + (k + i) * 7 + j by omega]
    exact this
end Go.Proofs.Ytkgmggjlnibgmaa
