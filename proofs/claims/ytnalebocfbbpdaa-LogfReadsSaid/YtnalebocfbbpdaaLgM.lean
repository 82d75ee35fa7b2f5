/-
  logf: logs that came in; LogfSame's walk.
-/
import Derived.Test.YtnalebocfbbpdaaLgL
import Derived.Test.YtnalebocfbbpdaaOpenF
import Derived.Test.YtnalebocfbbpdaaHeldG
namespace Go.Proofs.Ytnalebocfbbpdaa
open Go.RowKit Go Go.WideShapes Go.ChangeShapes Go.Deep
set_option linter.unusedVariables false
set_option linter.unusedSimpArgs false
set_option maxRecDepth 100000
section
variable {H : Type} {enc : TypeId × Value → H} {w : World}
theorem bs_of_cell {v : Value} {fuel : Nat} {y : DataW H × List MemPlace} (h : DataW.trod enc Try.prog w 0 (fun _ => true) true fuel 42 [v] = some y) : ∃ A n c l, v = .slice A n c ∧ BS w w.heap.size A n c l ∧ (A = none → c = 0) := by
  rcases open_ints Try.underlying42 Try.underlying5 (by kernel_rfl) h with ⟨hcs, _⟩ | ⟨x, l, c, zs, hcs, _, hl, hm, hz, _, hcell, hwz⟩
  · injection hcs with hcs
    subst hcs
    exact ⟨none, 0, 0, [], rfl, BS.nil _ _, fun _ => rfl⟩
  · injection hcs with hcs
    subst hcs
    obtain ⟨q, hq⟩ := BS.of_row (.inr ⟨x, rfl, hl, hm, by simpa using hz, hcell, hwz⟩)
    exact ⟨some x, l, c, q, rfl, hq, fun e => by cases e⟩
theorem es_open {A : Option Addr} {n c : Nat} {d : DataW H} {p : List MemPlace} (h : DataW.Trod enc Try.prog w 0 (fun _ => true) true 25 (.slice A n c) d p) : ∃ es, EsV w A n es ∧ EsZ w A n ∧ n ≤ 9223372036854775807 := by
  obtain ⟨h1, h2, h3, _⟩ := fields_open Try.underlying25 Try.underlying55 (by kernel_rfl) (by kernel_rfl) (by decide) h
  have hn9 : n ≤ 9223372036854775807 := by unfold maxLen at h3; omega
  rcases Nat.eq_zero_or_pos n with h0 | h0
  · exact ⟨[], ⟨h0.symm, fun h => absurd h (by omega)⟩, fun b o _ i hi => absurd hi (by omega), hn9⟩
  obtain ⟨b, o, hA, hb, hf⟩ := h1 h0
  have key : ∀ i, ∃ r : Int × List Nat, i < n → ∃ A' c', w.cell? ⟨b, o + i * 2, none⟩ = some (.int .i64 r.1) ∧ w.cell? ⟨b, o + i * 2 + 1, none⟩ = some (.slice A' r.2.length c') ∧ BS w w.heap.size A' r.2.length c' r.2 ∧ (A' = none → c' = 0) := fun i => by
    by_cases hi : i < n
    · obtain ⟨v0, _, y0, c0, t0⟩ := hf i hi 0 _ rfl
      obtain ⟨v1, _, y1, c1, t1⟩ := hf i hi 1 _ rfl
      obtain ⟨K, hK, _, _⟩ := DataW.trod_int Try.underlying3 t0
      injection hK with hK
      obtain ⟨A1, n1, c1', l1, rfl, b1, z1⟩ := bs_of_cell t1
      subst hK
      have hl := b1.len
      subst hl
      exact ⟨(K, l1), fun _ => ⟨A1, c1', by simpa using c0, by rw [Nat.add_assoc]; simpa using c1, b1, z1⟩⟩
    · exact ⟨(0, []), fun h => absurd h hi⟩
  obtain ⟨R, hR⟩ := Classical.axiomOfChoice key
  have hget : ∀ i, i < n → ((List.range n).map R).getD i (0, []) = R i := fun i hi => by
    rw [List.getD_eq_getElem?_getD, List.getElem?_map, List.getElem?_range hi]; rfl
  refine ⟨(List.range n).map R, ⟨by simp, fun _ => ⟨b, o, hA, hb, fun i hi => ?_⟩⟩, fun b' o' hA' i hi m c' hcell => ?_, hn9⟩
  · have hi2 : i < n := by simpa using hi
    rw [hget i hi2]
    obtain ⟨A', c', k1, k2, k3, _⟩ := hR i hi2
    exact ⟨A', c', k1, k2, k3⟩
  · rw [hA] at hA'
    have := Option.some.inj hA'
    injection this with e1 e2 _
    subst e1 e2
    obtain ⟨A2, c2, k1, k2, k3, k4⟩ := hR i hi
    rw [hcell] at k2
    have h9 := Option.some.inj k2
    injection h9 with e1 _ e3
    rw [e3]
    exact k4 e1.symm
theorem es_of_cell {v : Value} {fuel : Nat} {y : DataW H × List MemPlace} (h : DataW.trod enc Try.prog w 0 (fun _ => true) true fuel 25 [v] = some y) : ∃ A n c es, v = .slice A n c ∧ EsV w A n es ∧ EsZ w A n ∧ n ≤ 9223372036854775807 := by
  have h0 := h
  rcases open_slice Try.underlying25 h with ⟨hcs, _⟩ | ⟨a, len, cap, m, k, D, Pl, hcs, _⟩
  · injection hcs with hcs
    subst hcs
    exact ⟨none, 0, 0, [], rfl, ⟨rfl, fun q => by omega⟩, fun b o e => (by cases e), by omega⟩
  · injection hcs with hcs
    subst hcs
    obtain ⟨es, h1, h2, h3⟩ := es_open (d := y.1) (p := y.2) (A := some a) (n := len) (c := cap) ⟨fuel, h0⟩
    exact ⟨some a, len, cap, es, rfl, h1, h2, h3⟩
def LogOf (w : World) (g : Array Value) : Prop := ∃ (cnt : Nat) (A : Option Addr) (n c : Nat) (es : List (Int × List Nat)), cnt < 2 ^ 64 ∧ g = #[.int .u64 (cnt : Int), .slice A n c] ∧ EsV w A n es ∧ EsZ w A n ∧ n ≤ 9223372036854775807
theorem cells_u64 : Try.prog.cellsOf 24 = 1 := by kernel_rfl
theorem cells_sl : Try.prog.cellsOf 25 = 1 := by kernel_rfl
theorem log_open {g : Array Value} {d : DataW H} {p : List MemPlace} (hs : g.size = 2) (h : DataW.Trod enc Try.prog w 0 (fun _ => true) true 27 (.agg g) d p) : LogOf w g := by
  obtain ⟨fuel, hf⟩ := h
  have hc : (Value.agg g).cells.toList = g.toList := rfl
  rw [hc] at hf
  obtain ⟨cs, rfl⟩ : ∃ cs : List Value, g = cs.toArray := ⟨g.toList, by simp⟩
  obtain ⟨a0, a1, rfl⟩ : ∃ a0 a1, cs = [a0, a1] := by
    match cs, hs with
    | [a0, a1], _ => exact ⟨_, _, rfl⟩
  obtain ⟨ys, k, _, _, hl, hyl, hf⟩ := DataW.trod_struct Try.underlying27 hf
  have g0 := hf 0 _ rfl
  have g1 := hf 1 _ rfl
  have r0 : DataW.trod enc Try.prog w 0 (fun _ => true) true k 24 (([a0, a1].drop 0).take (Try.prog.cellsOf 24)) = ys[0]? := g0
  have r1 : DataW.trod enc Try.prog w 0 (fun _ => true) true k 25 (([a0, a1].drop 1).take (Try.prog.cellsOf 25)) = ys[1]? := g1
  clear g0 g1
  rw [cells_u64] at r0
  rw [cells_sl] at r1
  have hyl3 : ys.length = 2 := hyl
  have e0 : ys[0]? = some (ys[0]'(by omega)) := List.getElem?_eq_getElem (by omega)
  have e1 : ys[1]? = some (ys[1]'(by omega)) := List.getElem?_eq_getElem (by omega)
  rw [e0] at r0
  rw [e1] at r1
  have r0' : DataW.trod enc Try.prog w 0 (fun _ => true) true k 24 [a0] = some ys[0] := r0
  have r1' : DataW.trod enc Try.prog w 0 (fun _ => true) true k 25 [a1] = some ys[1] := r1
  obtain ⟨E, hE, _, hw⟩ := DataW.trod_int Try.underlying24 r0'
  injection hE with hE
  obtain ⟨x, hx, rfl⟩ := nat_u64 hw
  obtain ⟨A, n, c, es, rfl, h1, h2, h3⟩ := es_of_cell r1'
  subst hE
  exact ⟨x, A, n, c, es, hx, rfl, h1, h2, h3⟩
end
theorem EsZ.below {w w' : World} {A : Option Addr} {n : Nat} {es : List (Int × List Nat)} (h : EsZ w A n) (hv : EsV w A n es) (hb : Below w.heap.size w w') : EsZ w' A n := fun b o hA i hi m c hcell => by
  obtain ⟨b', o', hA', hE⟩ := hv.2 (by omega)
  rw [hA] at hA'
  have := Option.some.inj hA'
  injection this with e1 e2 _
  subst e1 e2
  exact h b o hA i hi m c ((hb.cell (p := ⟨b, o + i * 2 + 1, none⟩) hE.1).symm.trans hcell)
theorem cutL_len (f : Bool) (es : List (Int × List Nat)) : (cutL f es).length ≤ 30 := by unfold cutL; rw [List.length_map, List.length_take]; omega
theorem cutL_d (f : Bool) (es : List (Int × List Nat)) (i : Nat) (hi : i < (cutL f es).length) : (dAt (cutL f es) i).length ≤ 1000 := by
  have h2 : i < (es.take 30).length := by unfold cutL at hi; simpa using hi
  have e1 : dAt (cutL f es) i = (cutE f ((es.take 30)[i])).2 := by
    unfold dAt cutL
    rw [List.getD_eq_getElem?_getD, List.getElem?_map, List.getElem?_eq_getElem h2]; rfl
  rw [e1]
  unfold cutE
  dsimp only
  split
  · rw [full_len]; omega
  · rw [List.length_take]; omega
theorem al2 (w : World) (o : Obj) : Below w.heap.size w (w.alloc o) := (Below.refl _ _).alloc (Nat.le_refl _) _
/-- a log that was cut, in a world -/
structure LgOk (w : World) (A : Option Addr) (es : List (Int × List Nat)) : Prop where
  v : EsV w A es.length es
  z : EsZ w A es.length
  n : es.length ≤ 30
  d : ∀ i, i < es.length → (dAt es i).length ≤ 1000
theorem LgOk.below {w w' : World} {A : Option Addr} {es : List (Int × List Nat)} (h : LgOk w A es) (hb : Below w.heap.size w w') : LgOk w' A es := ⟨h.v.below hb, h.z.below h.v hb, h.n, h.d⟩
theorem box_cell {w : World} {g : Nat} {t : TypeId} {x : Nat} {A : Option Addr} {n c : Nat} (h : w.heap[g]? = some (.cells #[.int .u64 (x : Int), .slice A n c] t (0, 0))) {j : Nat} {K : IntKind} {y : Int} (hK : K ≠ .u64) : w.cell? ⟨g, j, none⟩ ≠ some (.int K y) := by
  intro e
  have e1 : w.cell? ⟨g, j, none⟩ = (#[.int .u64 (x : Int), .slice A n c] : Array Value)[j]? := blk_cell h j
  rw [e1] at e
  match j, e with
  | 0, e => have h2 := Option.some.inj e; injection h2 with h3 _; exact hK h3.symm
  | 1, e => cases (Option.some.inj e)
  | j + 2, e => simp at e
theorem EsV.box {w w' : World} {g : Nat} {t : TypeId} {x : Nat} {A1 : Option Addr} {n1 c1 : Nat} (h : w.heap[g]? = some (.cells #[.int .u64 (x : Int), .slice A1 n1 c1] t (0, 0))) (hk : ∀ k, k ≠ g → w'.heap[k]? = w.heap[k]?) (hs : w'.heap.size = w.heap.size) {A : Option Addr} {n : Nat} {es : List (Int × List Nat)} (hv : EsV w A n es) : EsV w' A n es :=
  ⟨hv.1, fun h0 => by
    obtain ⟨b, o, hA, hb, hE⟩ := hv.2 h0
    refine ⟨b, o, hA, by omega, fun i hi => ?_⟩
    obtain ⟨A', c', k1, k2, k3⟩ := hE i hi
    have hne : b ≠ g := fun e => box_cell h (by decide) (e ▸ k1)
    refine ⟨A', c', (World.cell?_of_block (a := ⟨b, o + i * 2, none⟩) (hk b hne)).trans k1, (World.cell?_of_block (a := ⟨b, o + i * 2 + 1, none⟩) (hk b hne)).trans k2, k3.1, k3.2.1, k3.2.2.1, k3.2.2.2.1, fun hn => ?_⟩
    obtain ⟨b2, o2, e2, hb2, hc2⟩ := k3.at_ hn
    have hne2 : b2 ≠ g := fun e => box_cell h (K := .u8) (by decide) (e ▸ hc2 0 hn)
    exact ⟨b2, o2, e2, by omega, fun j hj => (World.cell?_of_block (a := ⟨b2, o2 + j, none⟩) (hk b2 hne2)).trans (hc2 j hj)⟩⟩
theorem LgOk.box {w w' : World} {g : Nat} {t : TypeId} {x : Nat} {A1 : Option Addr} {n1 c1 : Nat} (h : w.heap[g]? = some (.cells #[.int .u64 (x : Int), .slice A1 n1 c1] t (0, 0))) (hk : ∀ k, k ≠ g → w'.heap[k]? = w.heap[k]?) (hs : w'.heap.size = w.heap.size) {A : Option Addr} {es : List (Int × List Nat)} (hv : LgOk w A es) : LgOk w' A es :=
  ⟨hv.v.box h hk hs, fun b o hA i hi m c hcell => by
    obtain ⟨b', o', hA', hb, hE⟩ := hv.v.2 (by omega)
    rw [hA] at hA'
    have := Option.some.inj hA'
    injection this with e1 e2 _
    subst e1 e2
    obtain ⟨A', c', k1, k2, k3⟩ := hE i hi
    have hne : b ≠ g := fun e => box_cell h (by decide) (e ▸ k1)
    exact hv.z b o hA i hi m c ((World.cell?_of_block (a := ⟨b, o + i * 2 + 1, none⟩) (hk b hne)).symm.trans hcell), hv.n, hv.d⟩
/-- two boxes of logs are written, one behind the other -/
theorem boxes_put {w v : World} {t : TypeId} {ca cb : Nat} {A A' A1 A3 : Option Addr} {n c n' c' c1 c3 : Nat} {xa xb : List (Int × List Nat)} {g : Nat} (hg : w.heap.size = g) (hb : Below w.heap.size w v)
    (h2 : v.heap[g]? = some (.cells #[.int .u64 (ca : Int), .slice A n c] t (0, 0))) (h3 : v.heap[g + 1]? = some (.cells #[.int .u64 (cb : Int), .slice A' n' c'] t (0, 0))) (hA : LgOk v A1 xa) (hB : LgOk v A3 xb) :
    ∀ W2, W2 = (((v.setCell ⟨g, 0, none⟩ (.int .u64 (ca : Int))).setCell ⟨g, 1, none⟩ (.slice A1 xa.length c1)).setCell ⟨g + 1, 0, none⟩ (.int .u64 (cb : Int))).setCell ⟨g + 1, 1, none⟩ (.slice A3 xb.length c3) →
      Below w.heap.size w W2 ∧ W2.heap[g]? = some (.cells #[.int .u64 (ca : Int), .slice A1 xa.length c1] t (0, 0)) ∧ W2.heap[g + 1]? = some (.cells #[.int .u64 (cb : Int), .slice A3 xb.length c3] t (0, 0)) ∧ LgOk W2 A1 xa ∧ LgOk W2 A3 xb := by
  rintro _ rfl
  have p1 := blk_set (blk_set h2 0 (.int .u64 (ca : Int))) 1 (.slice A1 xa.length c1)
  obtain ⟨V, hV⟩ : ∃ V, V = (v.setCell ⟨g, 0, none⟩ (.int .u64 (ca : Int))).setCell ⟨g, 1, none⟩ (.slice A1 xa.length c1) := ⟨_, rfl⟩
  rw [← hV] at p1 ⊢
  have hkV : ∀ k, k ≠ g → V.heap[k]? = v.heap[k]? := fun k hk => by rw [hV]; exact (Below.heap_setCell _ _ _ k hk).trans (Below.heap_setCell _ _ _ k hk)
  have hsV : V.heap.size = v.heap.size := by rw [hV, size_set, size_set]
  have hbV : Below w.heap.size w V := by rw [hV]; exact (hb.setCell (p := ⟨g, 0, none⟩) (Nat.le_of_eq hg) _).setCell (p := ⟨g, 1, none⟩) (Nat.le_of_eq hg) _
  have q3 : V.heap[g + 1]? = some (.cells #[.int .u64 (cb : Int), .slice A' n' c'] t (0, 0)) := (hkV _ (by omega)).trans h3
  have hA1 := hA.box h2 hkV hsV
  have hB1 := hB.box h2 hkV hsV
  have p2 := blk_set (blk_set q3 0 (.int .u64 (cb : Int))) 1 (.slice A3 xb.length c3)
  obtain ⟨U, hU⟩ : ∃ U, U = (V.setCell ⟨g + 1, 0, none⟩ (.int .u64 (cb : Int))).setCell ⟨g + 1, 1, none⟩ (.slice A3 xb.length c3) := ⟨_, rfl⟩
  rw [← hU] at p2 ⊢
  have hkU : ∀ k, k ≠ g + 1 → U.heap[k]? = V.heap[k]? := fun k hk => by rw [hU]; exact (Below.heap_setCell _ _ _ k hk).trans (Below.heap_setCell _ _ _ k hk)
  have hsU : U.heap.size = V.heap.size := by rw [hU, size_set, size_set]
  have hbU : Below w.heap.size w U := by rw [hU]; exact (hbV.setCell (p := ⟨g + 1, 0, none⟩) (by show w.heap.size ≤ g + 1; omega) _).setCell (p := ⟨g + 1, 1, none⟩) (by show w.heap.size ≤ g + 1; omega) _
  exact ⟨hbU, (hkU g (by omega)).trans (by simpa using p1), by simpa using p2, hA1.box q3 hkU hsU, hB1.box q3 hkU hsU⟩
end Go.Proofs.Ytnalebocfbbpdaa
