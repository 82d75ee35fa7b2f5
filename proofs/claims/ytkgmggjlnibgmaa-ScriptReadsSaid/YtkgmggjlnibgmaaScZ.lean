/-
  ScriptReads' walk.
-/
import Derived.Test.YtkgmggjlnibgmaaScR
import Derived.Test.YtkgmggjlnibgmaaScW
import Derived.Test.YtkgmggjlnibgmaaScS
namespace Go.Proofs.Ytkgmggjlnibgmaa
open Go.RowKit Go Go.WideShapes Go.ChangeShapes Go.Deep
set_option linter.unusedVariables false
set_option linter.unusedSimpArgs false
set_option maxRecDepth 100000
theorem Own.set {w : World} {B g n cap : Nat} {l : List Nat} (h : Own w B (.slice (some ⟨g, 0, none⟩) n cap) l) {k x : Nat} (hk : k < l.length) :
    Own (w.setCell ⟨g, k, none⟩ (.int .u8 (x : Int))) B (.slice (some ⟨g, 0, none⟩) n cap) (l.set k x) := by
  obtain ⟨h1, h2⟩ := h
  rcases h2 with ⟨e, _⟩ | ⟨g2, cap2, cur, e, hg, hh, hn, hm, hs, ht⟩
  · cases e
  · injection e with e1 e2 e3
    have e4 := Option.some.inj e1
    injection e4 with e5 _ _
    subst e5 e2 e3
    refine ⟨by rw [bvals_len, List.length_set, Nat.mul_one], .inr ⟨g, cap, _, by rw [List.length_set], hg, blk_set hh k _, by rw [List.length_set]; exact hn, hm, by simpa using hs, ?_⟩⟩
    rw [List.length_set, Nat.mul_one] at *
    rw [Array.toList_setIfInBounds, List.take_set, ht]
    unfold bvals
    rw [List.map_set]
theorem Own.cut {w : World} {B g n cap : Nat} {l : List Nat} (h : Own w B (.slice (some ⟨g, 0, none⟩) n cap) l) {k : Nat} (hk : k ≤ l.length) :
    Own w B (.slice (some ⟨g, 0, none⟩) k cap) (l.take k) := by
  obtain ⟨h1, h2⟩ := h
  have hl : (l.take k).length = k := by rw [List.length_take]; omega
  rcases h2 with ⟨e, _⟩ | ⟨g2, cap2, cur, e, hg, hh, hn, hm, hs, ht⟩
  · cases e
  · injection e with e1 e2 e3
    have e4 := Option.some.inj e1
    injection e4 with e5 _ _
    subst e5 e2 e3
    refine ⟨by rw [bvals_len, Nat.mul_one], .inr ⟨g, cap, cur, by rw [hl], hg, hh, by omega, hm, hs, ?_⟩⟩
    rw [hl, Nat.mul_one]
    rw [Nat.mul_one] at ht
    have e6 : cur.toList.take k = (cur.toList.take l.length).take k := by rw [List.take_take, Nat.min_eq_left hk]
    rw [e6, ht]
    unfold bvals
    rw [List.map_take]
theorem Own.at256 {w : World} {B : Nat} {v : Value} {l : List Nat} (h : Own w B v l) (hl : 0 < l.length) : ∃ g cap, v = .slice (some ⟨g, 0, none⟩) l.length cap ∧ l.length ≤ cap ∧ cap ≤ 9223372036854775807 ∧ ∀ k, k < l.length → (∃ u, w.cell? ⟨g, k, none⟩ = some u) ∧ w.frozen? ⟨g, k, none⟩ = false := by
  obtain ⟨h1, h2⟩ := h
  rcases h2 with ⟨rfl, e⟩ | ⟨g, cap, cur, rfl, hg, hh, hn, hm, hs, ht⟩
  · omega
  · refine ⟨g, cap, rfl, hn, by unfold maxLen at hm; omega, fun k hk => ⟨?_, blk_free hh k⟩⟩
    have hk2 : k < cur.size := by omega
    exact ⟨_, (blk_cell hh k).trans (Array.getElem?_eq_getElem hk2)⟩

/-- integers that came in -/
def IntsE (w : World) (A : Option Addr) (n : Nat) : Prop := n ≤ 9223372036854775807 ∧ (0 < n → ∃ b o, A = some ⟨b, o, none⟩ ∧ b < w.heap.size ∧ ∀ i, i < n → ∃ z : Int, w.cell? ⟨b, o + i, none⟩ = some (.int .i64 z))
section
variable {H : Type} {enc : TypeId × Value → H} {w : World}
theorem ints_open {A : Option Addr} {n c : Nat} {d : DataW H} {p : List MemPlace} (h : DataW.Trod enc Try.prog w 0 (fun _ => true) true 42 (.slice A n c) d p) : IntsE w A n := by
  obtain ⟨fuel, hf⟩ := h
  rcases open_ints Try.underlying42 Try.underlying3 (by kernel_rfl) hf with ⟨hcs, _⟩ | ⟨x, l, cc, zs, hcs, _, hl, hm, hz, _, hcell, hwz⟩
  · simp [Value.cells] at hcs
    obtain ⟨rfl, rfl, rfl⟩ := hcs
    exact ⟨by omega, fun h => absurd h (by omega)⟩
  · simp [Value.cells] at hcs
    obtain ⟨rfl, rfl, rfl⟩ := hcs
    have hz2 : zs.length = c := by simpa using hz
    refine ⟨by unfold maxLen at hm; omega, fun hn => ?_⟩
    obtain ⟨b, o, rfl, hc⟩ := ints_at hcell (by omega)
    exact ⟨b, o, rfl, block_lt_of_cell (hc 0 (by omega)), fun i hi => ⟨_, hc i (by omega)⟩⟩
end

theorem may_bR {l : List Ac} (h : allMay l) : ∀ i, (aAt l i).b.length < 1000000 := fun i => by
  by_cases hi : i < l.length
  · obtain ⟨_, _, _, _, _, _, _, _, _, _, h5, _⟩ := mayA_nat (h i hi)
    omega
  · have e : aAt l i = acZ := by simp [aAt, List.getD, List.getElem?_eq_none (Nat.le_of_not_lt hi)]
    rw [e]; simp
theorem byteL_set {l : List Nat} (h : byteL l) (k : Nat) {x : Nat} (hx : x < 256) : byteL (l.set k x) := fun i => by
  rw [List.getD_eq_getElem?_getD, List.getElem?_set]
  split
  · split
    · exact hx
    · simp
  · rw [← List.getD_eq_getElem?_getD]; exact h i
/-- some bytes of the call's own -/
def RdR (w1 : World) (most : Nat) (lo : Nat) (iv v : Value) (wr : World) : Prop :=
  ∃ (k : Nat) (x : Value) (L : List Nat), iv = .int .i64 (k : Int) ∧ x = v ∧ k ≤ most ∧ byteL L ∧ L.length ≤ lo ∧ Own wr w1.heap.size x L ∧ After w1 wr
def Rd2 (w1 : World) (most nb : Nat) (v : Value) (iv : Value) (wr : World) : Prop :=
  ∃ (k : Nat) (L : List Nat), iv = .int .i64 (k : Int) ∧ k ≤ most ∧ byteL L ∧ L.length = nb ∧ Own wr w1.heap.size v L ∧ After w1 wr
def LpR (w1 : World) (most : Nat) (iv v : Value) (wr : World) : Prop :=
  ∃ (k : Nat) (x : Value) (L : List Nat), iv = .int .i64 (k : Int) ∧ x = v ∧ k ≤ most ∧ byteL L ∧ L.length ≤ 1042 * k ∧ Own wr w1.heap.size x L ∧ After w1 wr
set_option maxHeartbeats 8000000 in
theorem scriptReads_any (A : Option Addr) (n c : Nat) (l : List Ac) (Ai : Option Addr) (ni ci : Nat) (Av : Option Addr) (nv cv : Nat) (V : List Nat) (z : Int) (Am : Option Addr) (nm cm : Nat) (M : List Nat) (w : World) (hv : AcV w A n l) (hn : n ≤ c) (hc : c ≤ 9223372036854775807)
    (hi : IntsE w Ai ni) (hV : BS w w.heap.size Av nv cv V) (hz : (Lit.int .i64 z).wf = true) (hM : BS w w.heap.size Am nm cm M) (hMz : Am = none → cm = 0) :
    Calls Try.prog 4 #[.slice A n c, .slice Ai ni ci, .slice Av nv cv, .int .i64 z, .slice Am nm cm] w (SameTo w true) := by
  have HC1 := Lib.hid (cut27_any A n c 6 l w hv (by omega) (by omega))
  have HF1 := Lib.hid (cut_few 6 l)
  have HB31 : Hid (∀ i, i < (cutL 6 l).length → (aAt (cutL 6 l) i).b.length ≤ 1030) := Lib.hid (cutL_b 6 l)
  have HI := Lib.hid hi
  have HVV := Lib.hid hV
  have HMM := Lib.hid hM
  have HMZ := Lib.hid hMz
  have HZW := Lib.hid hz
  generalize cutL 6 l = la at *
  clear hv hi hV hM hMz hz
  go_enter Try.func4, Try.ntmps4
  go_wp2_with fail
  refine HC1.out.mono ?_
  rintro e w1 ⟨v1, rfl, ho1, hb1⟩
  obtain ⟨Aa, ca, rfl, hv1, hnc, hca, _⟩ := ho1.acV (Nat.le_refl _) hb1.size
  obtain ⟨na, hna⟩ : ∃ na, la.length = na := ⟨_, rfl⟩
  have HNA : Hid (na ≤ 6) := Lib.hid (by rw [← hna]; exact HF1.out.1)
  rw [hna] at hv1 ⊢
  have HLA := Lib.hid hna
  have HB1 := Lib.hid hb1
  have HV := Lib.hid hv1
  have HR : Hid (RdR w1 na 6252 (.int .i64 0) (.slice none 0 0) w1) := Lib.hid ⟨0, _, [], rfl, rfl, by omega, by intro i; simp, by simp, Own.nil _ _, After.refl _⟩
  have hna10 := HNA.out
  have HR0 : Hid (LpR w1 na (.int .i64 0) (.slice none 0 0) w1) := Lib.hid ⟨0, _, [], rfl, rfl, by omega, by intro i; simp, by simp, Own.nil _ _, After.refl _⟩
  clear ho1 hb1 hv1 hnc hca hna HC1 HR
  go_wp2_with fail
  go_loopw [23, 11] (fun iv v wr => LpR w1 na iv v wr) (fun iv _ _ => (na - intOf iv).toNat)
  case atStart => exact HR0.out
  case round =>
    clear HR0
    obtain ⟨k, v, L, rfl, rfl, hk, hLb, hLl, hO, hA⟩ := hrel
    have HO := Lib.hid hO
    have HLB := Lib.hid hLb
    have HLL := Lib.hid hLl
    have HA := Lib.hid hA
    clear hO hLb hLl hA
    have HBW : Hid (Below w.heap.size w wr) := Lib.hid (HB1.out.trans (Below.mono HA.out HB1.out.size))
    by_cases hlt : k < na
    · obtain ⟨b, o, A1, c1, rfl, hb0, q0, q1, q2, q3, q4, q5, q6, hs1, hz1⟩ := HV.out.at_ (show k < na by omega)
      have p0 : wr.cell? ⟨b, o + k * 7, none⟩ = some (.int .i64 (aAt la k).kind) := (HA.out.cell (p := ⟨b, o + k * 7, none⟩) hb0).trans q0
      have p1 : wr.cell? ⟨b, o + k * 7 + 1, none⟩ = some (.bool (aAt la k).yes) := (HA.out.cell (p := ⟨b, o + k * 7 + 1, none⟩) hb0).trans q1
      have p2 : wr.cell? ⟨b, o + k * 7 + 2, none⟩ = some (.int .i64 (aAt la k).which) := (HA.out.cell (p := ⟨b, o + k * 7 + 2, none⟩) hb0).trans q2
      have p3 : wr.cell? ⟨b, o + k * 7 + 3, none⟩ = some (.int .i64 (aAt la k).k) := (HA.out.cell (p := ⟨b, o + k * 7 + 3, none⟩) hb0).trans q3
      have p4 : wr.cell? ⟨b, o + k * 7 + 4, none⟩ = some (.int .i64 (aAt la k).n) := (HA.out.cell (p := ⟨b, o + k * 7 + 4, none⟩) hb0).trans q4
      have p5 : wr.cell? ⟨b, o + k * 7 + 5, none⟩ = some (.int .i64 (aAt la k).pos) := (HA.out.cell (p := ⟨b, o + k * 7 + 5, none⟩) hb0).trans q5
      have p6 : wr.cell? ⟨b, o + k * 7 + 6, none⟩ = some (.slice A1 (aAt la k).b.length c1) := (HA.out.cell (p := ⟨b, o + k * 7 + 6, none⟩) hb0).trans q6
      have HZ := Lib.hid hz1
      have HBB : Hid (byteL (aAt la k).b) := Lib.hid (HV.out.byte k)
      have h31 := HB31.out k (by rw [HLA.out]; exact hlt)
      have hlt1 : b < wr.heap.size := Nat.lt_of_lt_of_le hb0 HA.out.size
      obtain ⟨bb, hbb⟩ : ∃ bb, (aAt la k).b = bb := ⟨_, rfl⟩
      rw [hbb] at p6 hs1 HBB h31
      obtain ⟨n1, hn1⟩ : ∃ n1, bb.length = n1 := ⟨_, rfl⟩
      have HN1 := Lib.hid hn1
      rw [hn1] at p6 hs1 h31
      have HS1 : Hid (BS wr wr.heap.size A1 n1 c1 bb) := Lib.hid ((hs1.below HA.out).more (Below.size HA.out))
      clear q0 q1 q2 q3 q4 q5 q6 hs1 hz1 hb0 hbb hn1
      generalize (aAt la k).kind = kd at *
      generalize (aAt la k).yes = y at *
      generalize (aAt la k).which = z1 at *
      generalize (aAt la k).k = z2 at *
      generalize (aAt la k).n = z3 at *
      generalize (aAt la k).pos = z4 at *
      have HA5 : Hid (After wr (wr.alloc (.cells #[.int .i64 kd, .bool y, .int .i64 z1, .int .i64 z2, .int .i64 z3, .int .i64 z4, .slice A1 n1 c1] 26))) := Lib.hid (al1 _ _)
      have HX5 := Lib.hid (heap_alloc_new wr (.cells #[.int .i64 kd, .bool y, .int .i64 z1, .int .i64 z2, .int .i64 z3, .int .i64 z4, .slice A1 n1 c1] 26))
      have HRM := Lib.hid (rmay_any kd y z1 z2 z3 z4 A1 n1 c1 bb HN1.out (by omega) (wr.alloc (.cells #[.int .i64 kd, .bool y, .int .i64 z1, .int .i64 z2, .int .i64 z3, .int .i64 z4, .slice A1 n1 c1] 26)))
      go_upto_region 5 with (fail)
      generalize wr.alloc (.cells #[.int .i64 kd, .bool y, .int .i64 z1, .int .i64 z2, .int .i64 z3, .int .i64 z4, .slice A1 n1 c1] 26) = W5 at *
      have g0 : W5.cell? ⟨wr.heap.size, 0, none⟩ = some (.int .i64 kd) := blk_cell HX5.out 0
      have g1 : W5.cell? ⟨wr.heap.size, 1, none⟩ = some (.bool y) := blk_cell HX5.out 1
      have g2 : W5.cell? ⟨wr.heap.size, 2, none⟩ = some (.int .i64 z1) := blk_cell HX5.out 2
      have g3 : W5.cell? ⟨wr.heap.size, 3, none⟩ = some (.int .i64 z2) := blk_cell HX5.out 3
      have g4 : W5.cell? ⟨wr.heap.size, 4, none⟩ = some (.int .i64 z3) := blk_cell HX5.out 4
      have g5 : W5.cell? ⟨wr.heap.size, 5, none⟩ = some (.int .i64 z4) := blk_cell HX5.out 5
      have g6 : W5.cell? ⟨wr.heap.size, 6, none⟩ = some (.slice A1 n1 c1) := blk_cell HX5.out 6
      go_wp2_with fail
      refine HRM.out.mono ?_
      rintro e w6 ⟨rfl, hb6⟩
      have HX6 : Hid (w6.heap[wr.heap.size]? = some (.cells #[.int .i64 kd, .bool y, .int .i64 z1, .int .i64 z2, .int .i64 z3, .int .i64 z4, .slice A1 n1 c1] 26 (0, 0))) := Lib.hid ((hb6.block _ (blk_lt HX5.out)).trans HX5.out)
      have HW6 : Hid (After wr w6) := Lib.hid (After.next HA5.out hb6)
      have HO6 : Hid (Own w6 w1.heap.size v L) := Lib.hid (HO.out.below HW6.out)
      have HA6 : Hid (After w1 w6) := Lib.hid (After.next HA.out HW6.out)
      clear hb6 HRM g0 g1 g2 g3 g4 g5 g6
      cases hR : mayA (⟨kd, y, z1, z2, z3, z4, bb⟩ : Ac)
      · have HG : Hid (LpR w1 na (.int .i64 ((k : Int) + 1)) v w6) := Lib.hid ⟨k + 1, v, L, rfl, rfl, by omega, HLB.out, by have := HLL.out; omega, HO6.out, HA6.out⟩
        clear hR
        go_wp2
        go_roundw
        case rel => exact HG.out
        case measure => simp [intOf]; omega
      · have HBT := Lib.hid (rbytes_any (⟨kd, y, z1, z2, z3, z4, bb⟩ : Ac) A1 n1 c1 hR HZ.out w6 ((HS1.out.below HW6.out).more (Below.size HW6.out)))
        have HLX : Hid ((bytesA (⟨kd, y, z1, z2, z3, z4, bb⟩ : Ac)).length ≤ 1042 ∧ byteL (bytesA (⟨kd, y, z1, z2, z3, z4, bb⟩ : Ac))) := Lib.hid ⟨by rw [bytesA_len]; show 12 + bb.length ≤ 1042; rw [HN1.out]; omega, bytesA_byte HBB.out⟩
        clear hR
        generalize bytesA (⟨kd, y, z1, z2, z3, z4, bb⟩ : Ac) = bs at *
        have g0 : w6.cell? ⟨wr.heap.size, 0, none⟩ = some (.int .i64 kd) := blk_cell HX6.out 0
        have g1 : w6.cell? ⟨wr.heap.size, 1, none⟩ = some (.bool y) := blk_cell HX6.out 1
        have g2 : w6.cell? ⟨wr.heap.size, 2, none⟩ = some (.int .i64 z1) := blk_cell HX6.out 2
        have g3 : w6.cell? ⟨wr.heap.size, 3, none⟩ = some (.int .i64 z2) := blk_cell HX6.out 3
        have g4 : w6.cell? ⟨wr.heap.size, 4, none⟩ = some (.int .i64 z3) := blk_cell HX6.out 4
        have g5 : w6.cell? ⟨wr.heap.size, 5, none⟩ = some (.int .i64 z4) := blk_cell HX6.out 5
        have g6 : w6.cell? ⟨wr.heap.size, 6, none⟩ = some (.slice A1 n1 c1) := blk_cell HX6.out 6
        go_wp2_with fail
        refine HBT.out.mono ?_
        rintro e w7 ⟨v7, rfl, ho7, hb7⟩
        obtain ⟨A7, c7, rfl, hs7⟩ := ho7.bs HLX.out.2
        have HS7 := Lib.hid hs7
        have HZ7 := Lib.hid (own_zero ho7)
        have HO7 : Hid (Own w7 w1.heap.size v L) := Lib.hid (HO6.out.below hb7)
        have HA7 : Hid (After w1 w7) := Lib.hid (After.next HA6.out hb7)
        have HLEN : Hid (L.length + bs.length < 1000000000) := Lib.hid (by have := HLL.out; have := HLX.out.1; omega)
        clear ho7 hb7 hs7 g0 g1 g2 g3 g4 g5 g6
        go_upto_region 7 with (at_builtin; refine wp_apps _ rfl (.tmp 29) (.tmp 31) rfl w1.heap.size v L rfl HO7.out w7.heap.size A7 bs.length c7 bs rfl HS7.out HZ7.out HLEN.out (Below.size HA7.out) ?_; intro v8 w8 ho8 hd8; have HG : Hid (LpR w1 na (.int .i64 ((k : Int) + 1)) v8 w8) := Lib.hid ⟨k + 1, v8, _, rfl, rfl, by omega, byteL_app HLB.out HLX.out.2, by rw [List.length_append]; have := HLL.out; have := HLX.out.1; omega, ho8, Below.trans HA7.out hd8⟩; clear ho8 hd8)
        go_wp2
        go_roundw
        case rel => exact HG.out
        case measure => simp [intOf]; omega
    · have hkn : k = na := by omega
      have HLL2 : Hid (L.length ≤ 6252) := Lib.hid (by have := HLL.out; omega)
      obtain ⟨Ab, cb, rfl, hsb⟩ := HO.out.bs HLB.out
      obtain ⟨nb, hnb⟩ : ∃ nb, L.length = nb := ⟨_, rfl⟩
      have hnb9 : nb ≤ 6252 := by rw [← hnb]; exact HLL2.out
      have HOb : Hid (Own wr w1.heap.size (.slice Ab nb cb) L) := Lib.hid (by rw [← hnb]; exact HO.out)
      rw [hnb] at hsb ⊢
      have HR2 : Hid (Rd2 w1 ni nb (.slice Ab nb cb) (.int .i64 0) wr) := Lib.hid ⟨0, L, rfl, by omega, HLB.out, hnb, HOb.out, HA.out⟩
      clear hsb hnb HOb
      have hni9 : ni ≤ 9223372036854775807 := HI.out.1
      have hnv9 : nv ≤ 9223372036854775807 := by have := HVV.out.cap; omega
      clear HLL HLL2 HLB HO
      have hltI : ¬ (k : Int) < (na : Int) := by omega
      have HA0 := HA
      clear HA
      obtain ⟨wa, hwa⟩ : ∃ wa, wa = wr := ⟨_, rfl⟩
      go_wp2_with fail
      go_loopw [36] (fun iv wr => Rd2 w1 ni nb (.slice Ab nb cb) iv wr) (fun iv _ => (ni - intOf iv).toNat)
      case atStart => exact HR2.out
      case round =>
        clear HR2 HA0 HBW hwa wa
        obtain ⟨k, L, rfl, hk, hLb, hLl, hO, hA⟩ := hrel
        have HO := Lib.hid hO
        have HLB := Lib.hid hLb
        have HNB := Lib.hid hLl
        have HA := Lib.hid hA
        clear hO hLb hLl hA
        have HBW : Hid (Below w.heap.size w wr) := Lib.hid (HB1.out.trans (Below.mono HA.out HB1.out.size))
        by_cases hlt : k < ni
        · obtain ⟨b, o, rfl, hb0, hc0⟩ := HI.out.2 (by omega)
          obtain ⟨zi, hc1⟩ := hc0 k hlt
          have c0 : wr.cell? ⟨b, o + k, none⟩ = some (.int .i64 zi) := (HBW.out.cell (p := ⟨b, o + k, none⟩) hb0).trans hc1
          have hlt1 : b < wr.heap.size := Nat.lt_of_lt_of_le hb0 HBW.out.size
          clear hc0 hc1 hb0
          have HSAME : Hid (∀ W, W = wr → Rd2 w1 ni nb (.slice Ab nb cb) (.int .i64 ((k : Int) + 1)) W) := Lib.hid (fun W h => by rw [h]; exact ⟨k + 1, L, rfl, by omega, HLB.out, HNB.out, HO.out, HA.out⟩)
          by_cases h6 : k < 6
          · have h6I : (k : Int) < 6 := by omega
            by_cases hv6 : k < nv
            · have hvI : (k : Int) < (nv : Int) := by omega
              by_cases hz0 : 0 ≤ zi
              · by_cases hzn : zi < (nb : Int)
                · obtain ⟨j, rfl⟩ : ∃ j : Nat, zi = (j : Int) := ⟨zi.toNat, by omega⟩
                  have hjn : j < nb := by omega
                  obtain ⟨bv, ov, rfl, hbv, hcv⟩ := HVV.out.at_ (show 0 < nv by omega)
                  have cv0 : wr.cell? ⟨bv, ov + k, none⟩ = some (.int .u8 ((V.getD k 0 : Nat) : Int)) := (HBW.out.cell (p := ⟨bv, ov + k, none⟩) hbv).trans (hcv k hv6)
                  have hvb : V.getD k 0 < 256 := HVV.out.byte k
                  obtain ⟨gb, cc, e1, _, _, hcell⟩ := HO.out.at256 (by rw [HNB.out]; omega)
                  rw [HNB.out] at e1 hcell
                  injection e1 with e2 _ e3
                  subst e2 e3
                  obtain ⟨⟨u0, hu0⟩, hf0⟩ := hcell j hjn
                  have hlt2 : bv < wr.heap.size := Nat.lt_of_lt_of_le hbv HBW.out.size
                  have HGB := Lib.hid (HO.out.lt (show (Value.slice (some ⟨gb, 0, none⟩) nb cb).ownBlock = some gb from rfl))
                  have hlt3 : gb < wr.heap.size := HGB.out.2
                  obtain ⟨x, hx⟩ : ∃ x, V.getD k 0 = x := ⟨_, rfl⟩
                  rw [hx] at cv0 hvb
                  have HG : Hid (Rd2 w1 ni nb (.slice (some ⟨gb, 0, none⟩) nb cb) (.int .i64 ((k : Int) + 1)) (wr.setCell ⟨gb, j, none⟩ (.int .u8 (x : Int)))) := Lib.hid ⟨k + 1, L.set j x, rfl, by omega, byteL_set HLB.out j hvb, by rw [List.length_set, HNB.out], HO.out.set (by rw [HNB.out]; exact hjn), Below.setCell HA.out (p := ⟨gb, j, none⟩) HGB.out.1 _⟩
                  clear hbv hcv hcell HSAME hx
                  go_wp2
                  go_roundw
                  case rel => exact HG.out
                  case measure => simp [intOf]; omega
                · have hznI : ¬ zi < (nb : Int) := hzn
                  go_wp2
                  go_roundw
                  case rel => exact HSAME.out _ rfl
                  case measure => simp [intOf]; omega
              · have hz0I : ¬ 0 ≤ zi := hz0
                go_wp2
                go_roundw
                case rel => exact HSAME.out _ rfl
                case measure => simp [intOf]; omega
            · have hvI : ¬ (k : Int) < (nv : Int) := by omega
              go_wp2
              go_roundw
              case rel => exact HSAME.out _ rfl
              case measure => simp [intOf]; omega
          · have h6I : ¬ (k : Int) < 6 := by omega
            go_wp2
            go_roundw
            case rel => exact HSAME.out _ rfl
            case measure => simp [intOf]; omega
        · have hkI : ¬ (k : Int) < (ni : Int) := by omega
          by_cases hz0 : 0 < z
          · by_cases hzn : z ≤ (nb : Int)
            · obtain ⟨zn, rfl⟩ : ∃ zn : Nat, z = (zn : Int) := ⟨z.toNat, by omega⟩
              obtain ⟨j, hj⟩ : ∃ j : Nat, j = nb - zn := ⟨_, rfl⟩
              have ej : IntKind.i64.wrap ((nb : Int) - (zn : Int)) = (j : Int) := (IntWalk.i64_in _ (by omega)).trans (by omega)
              obtain ⟨gb, cc, e1, hc1, hc2, hcell⟩ := HO.out.at256 (by rw [HNB.out]; omega)
              rw [HNB.out] at e1 hc1
              injection e1 with e2 _ e3
              subst e2 e3
              have HOC : Hid (Own wr w1.heap.size (.slice (some ⟨gb, 0, none⟩) j cb) (L.take j)) := Lib.hid (HO.out.cut (by rw [HNB.out]; omega))
              have HN2 : Hid ((L.take j).length = j) := Lib.hid (by rw [List.length_take, HNB.out]; omega)
              have HLB2 : Hid (byteL (L.take j)) := Lib.hid (take_byte HLB.out j)
              have hjc : (j : Int) ≤ (cb : Int) := by omega
              have hj9 : j ≤ 6252 := by omega
              clear hcell hc1 hc2 hj
              by_cases h40 : 40 < nm
              · have h40I : (40 : Int) < (nm : Int) := by omega
                have hcm := HMM.out.cap
                have h40c : (40 : Int) ≤ (cm : Int) := by omega
                have HM40 : Hid (BS wr w.heap.size Am 40 cm (M.take 40)) := Lib.hid ((HMM.out.below HBW.out).take (by omega))
                clear hcm
                have HLEN : Hid ((L.take j).length + 40 < 1000000000) := Lib.hid (by rw [HN2.out]; omega)
                go_upto_region 19 with (at_builtin; refine wp_apps _ rfl (.tmp 86) (.tmp 87) rfl w1.heap.size (.slice (some ⟨gb, 0, none⟩) j cb) (L.take j) rfl HOC.out w.heap.size Am 40 cm (M.take 40) rfl HM40.out HMZ.out HLEN.out (Below.size HA.out) ?_; intro v30 w30 ho30 hd30; have HA30 : Hid (After w1 w30) := Lib.hid (Below.trans HA.out hd30); have hby30 : byteL (L.take j ++ M.take 40) := byteL_app HLB2.out HM40.out.byte; obtain ⟨Ag, cg, rfl, hsg⟩ := ho30.bs hby30; obtain ⟨ng, hng⟩ : ∃ x, (L.take j ++ M.take 40).length = x := ⟨_, rfl⟩; rw [hng] at hsg ⊢; have HNG := Lib.hid hng; clear hng; have HSG := Lib.hid hsg; clear ho30 hd30 hsg hby30)
                have HB30 : Hid (Below w.heap.size w w30) := Lib.hid (HB1.out.trans (Below.mono HA30.out HB1.out.size))
                have hng9 : ng ≤ 6292 := by have h1 := HNG.out; rw [List.length_append, HN2.out, HM40.out.len] at h1; omega
                obtain ⟨B, hB⟩ : ∃ B, L.take j ++ M.take 40 = B := ⟨_, rfl⟩
                rw [hB] at HSG HNG
                clear hB
                go_wp2_with fail
                refine (pparse_any Ag ng cg B _ HSG.out (by omega)).mono ?_
                rintro e w31 ⟨hb31, hP31⟩
                have HB31 : Hid (Below w.heap.size w w31) := Lib.hid (HB30.out.trans (Below.mono hb31 HB30.out.size))
                have HSG31 : Hid (BS w31 w31.heap.size Ag ng cg B) := Lib.hid ((HSG.out.below hb31).more hb31.size)
                have HBP : Hid (Below w30.heap.size w30 w31) := Lib.hid hb31
                clear hb31
                rcases hP31 with ⟨h0, rfl⟩ | ⟨l2, A2, c2, h0, rfl, hv2, h12⟩
                · have HPN := Lib.hid h0
                  clear h0
                  go_wp2_with fail
                  refine (rparse27_any Ag ng cg B _ HSG31.out (by omega)).mono ?_
                  rintro e w32 ⟨hb32, hQ32⟩
                  have HB32 : Hid (Below w.heap.size w w32) := Lib.hid (HB31.out.trans (Below.mono hb32 HB31.out.size))
                  rcases hQ32 with ⟨_, rfl⟩ | ⟨l2, v2, h2, _⟩
                  rotate_left 1
                  · rw [HPN.out] at h2; cases h2
                  clear hb32
                  have HNIL32 : Hid (AcV w32 none 0 []) := Lib.hid (AcV.nil _)
                  go_wp2_with fail
                  refine (plain27_any none 0 0 [] _ HNIL32.out (by omega) (fun i => by simp [aAt])).mono ?_
                  rintro e w33 ⟨v33, rfl, ho33, hb33⟩
                  have HB33 : Hid (Below w.heap.size w w33) := Lib.hid (HB32.out.trans (Below.mono hb33 HB32.out.size))
                  have HVx_33 : Hid (AcV w33 none 0 []) := Lib.hid (HNIL32.out.below hb33)
                  obtain ⟨A33, c33, rfl, hv33, _, _, hz33⟩ := ho33.acV (Nat.le_refl _) hb33.size
                  have HVq_33 : Hid (AcV w33 A33 ([]).length ([])) := Lib.hid hv33
                  clear ho33 hb33 hv33 hz33
                  clear HNIL32
                  have hl0 : ([] : List Ac).length = 0 := rfl
                  rw [hl0] at HVq_33 ⊢
                  clear hl0
                  go_wp2_with fail
                  refine (rall27_any A33 none 0 c33 0 0 [] [] false _ HVq_33.out HVx_33.out (by omega) (by omega)).mono ?_
                  rintro e w34 ⟨rfl, hb34⟩
                  have HB34 : Hid (Below w.heap.size w w34) := Lib.hid (HB33.out.trans (Below.mono hb34 HB33.out.size))
                  have HVx_34 : Hid (AcV w34 none 0 []) := Lib.hid (HVx_33.out.below hb34)
                  have HVq_34 : Hid (AcV w34 A33 0 []) := Lib.hid (HVq_33.out.below hb34)
                  clear hb34
                  rw [allF_self []]
                  clear HVx_33 HVq_33
                  go_wp2_with fail
                  refine (awake27_any _).mono ?_
                  rintro e w35 ⟨rfl, hb35⟩
                  have HB35 : Hid (Below w.heap.size w w35) := Lib.hid (HB34.out.trans (Below.mono hb35 HB34.out.size))
                  have HVx_35 : Hid (AcV w35 none 0 []) := Lib.hid (HVx_34.out.below hb35)
                  have HVq_35 : Hid (AcV w35 A33 0 []) := Lib.hid (HVq_34.out.below hb35)
                  clear hb35
                  clear HVx_34 HVq_34
                  go_wp2
                  go_ret
                  exact ⟨rfl, HB35.out⟩
                · have HPS := Lib.hid h0
                  have HMY : Hid (allMay l2) := Lib.hid (parseL_may B.length B l2 (Nat.le_refl _) h0)
                  obtain ⟨n2, hn2⟩ : ∃ n2, l2.length = n2 := ⟨_, rfl⟩
                  have hn29 : n2 < 100000 := by have := HNG.out; omega
                  rw [hn2] at hv2 ⊢
                  have HL2 := Lib.hid hn2
                  have HVx := Lib.hid hv2
                  clear h0 hv2 h12 hn2
                  go_wp2_with fail
                  refine (rparse27_any Ag ng cg B _ HSG31.out (by omega)).mono ?_
                  rintro e w32 ⟨hb32, hQ32⟩
                  have HB32 : Hid (Below w.heap.size w w32) := Lib.hid (HB31.out.trans (Below.mono hb32 HB31.out.size))
                  have HVx_32 : Hid (AcV w32 A2 n2 l2) := Lib.hid (HVx.out.below hb32)
                  clear HVx
                  rcases hQ32 with ⟨h2, _⟩ | ⟨l3, v3, h2, rfl, ho3, h12⟩
                  · rw [HPS.out] at h2; cases h2
                  rw [HPS.out] at h2
                  have hl3 := Option.some.inj h2
                  subst hl3
                  obtain ⟨A3, c3, rfl, hv3, hq1, hq2, hq3⟩ := ho3.acV (Nat.le_refl _) hb32.size
                  rw [HL2.out] at hv3 ⊢
                  have HVr_32 := Lib.hid hv3
                  clear h2 ho3 h12 hv3 hq1 hq2 hq3 hb32
                  go_wp2_with fail
                  refine (plain27_any A2 n2 c2 l2 _ HVx_32.out (by omega) (may_bR HMY.out)).mono ?_
                  rintro e w33 ⟨v33, rfl, ho33, hb33⟩
                  have HB33 : Hid (Below w.heap.size w w33) := Lib.hid (HB32.out.trans (Below.mono hb33 HB32.out.size))
                  have HVx_33 : Hid (AcV w33 A2 n2 l2) := Lib.hid (HVx_32.out.below hb33)
                  have HVr_33 : Hid (AcV w33 A3 n2 l2) := Lib.hid (HVr_32.out.below hb33)
                  obtain ⟨A33, c33, rfl, hv33, _, _, hz33⟩ := ho33.acV (Nat.le_refl _) hb33.size
                  have HVq_33 : Hid (AcV w33 A33 (l2).length (l2)) := Lib.hid hv33
                  clear ho33 hb33 hv33 hz33
                  clear HVx_32 HVr_32
                  rw [HL2.out] at HVq_33 ⊢
                  clear HVx_33
                  go_wp2_with fail
                  refine (rall27_any A33 A3 n2 c33 n2 c3 l2 l2 false _ HVq_33.out HVr_33.out (by omega) (by omega)).mono ?_
                  rintro e w34 ⟨rfl, hb34⟩
                  have HB34 : Hid (Below w.heap.size w w34) := Lib.hid (HB33.out.trans (Below.mono hb34 HB33.out.size))
                  have HVr_34 : Hid (AcV w34 A3 n2 l2) := Lib.hid (HVr_33.out.below hb34)
                  have HVq_34 : Hid (AcV w34 A33 n2 l2) := Lib.hid (HVq_33.out.below hb34)
                  clear hb34
                  rw [allF_self l2]
                  clear HVr_33 HVq_33
                  go_wp2_with fail
                  refine (awake27_any _).mono ?_
                  rintro e w35 ⟨rfl, hb35⟩
                  have HB35 : Hid (Below w.heap.size w w35) := Lib.hid (HB34.out.trans (Below.mono hb35 HB34.out.size))
                  have HVr_35 : Hid (AcV w35 A3 n2 l2) := Lib.hid (HVr_34.out.below hb35)
                  have HVq_35 : Hid (AcV w35 A33 n2 l2) := Lib.hid (HVq_34.out.below hb35)
                  clear hb35
                  clear HVr_34 HVq_34
                  go_wp2
                  go_ret
                  exact ⟨rfl, HB35.out⟩
              · have h40I : ¬ (40 : Int) < (nm : Int) := by omega
                have HM40 : Hid (BS wr w.heap.size Am nm cm M) := Lib.hid (HMM.out.below HBW.out)
                have HLEN : Hid ((L.take j).length + nm < 1000000000) := Lib.hid (by rw [HN2.out]; omega)
                go_upto_region 19 with (at_builtin; refine wp_apps _ rfl (.tmp 86) (.tmp 87) rfl w1.heap.size (.slice (some ⟨gb, 0, none⟩) j cb) (L.take j) rfl HOC.out w.heap.size Am nm cm (M) rfl HM40.out HMZ.out HLEN.out (Below.size HA.out) ?_; intro v30 w30 ho30 hd30; have HA30 : Hid (After w1 w30) := Lib.hid (Below.trans HA.out hd30); have hby30 : byteL (L.take j ++ M) := byteL_app HLB2.out HM40.out.byte; obtain ⟨Ag, cg, rfl, hsg⟩ := ho30.bs hby30; obtain ⟨ng, hng⟩ : ∃ x, (L.take j ++ M).length = x := ⟨_, rfl⟩; rw [hng] at hsg ⊢; have HNG := Lib.hid hng; clear hng; have HSG := Lib.hid hsg; clear ho30 hd30 hsg hby30)
                have HB30 : Hid (Below w.heap.size w w30) := Lib.hid (HB1.out.trans (Below.mono HA30.out HB1.out.size))
                have hng9 : ng ≤ 6292 := by have h1 := HNG.out; rw [List.length_append, HN2.out, HM40.out.len] at h1; omega
                obtain ⟨B, hB⟩ : ∃ B, L.take j ++ M = B := ⟨_, rfl⟩
                rw [hB] at HSG HNG
                clear hB
                go_wp2_with fail
                refine (pparse_any Ag ng cg B _ HSG.out (by omega)).mono ?_
                rintro e w31 ⟨hb31, hP31⟩
                have HB31 : Hid (Below w.heap.size w w31) := Lib.hid (HB30.out.trans (Below.mono hb31 HB30.out.size))
                have HSG31 : Hid (BS w31 w31.heap.size Ag ng cg B) := Lib.hid ((HSG.out.below hb31).more hb31.size)
                have HBP : Hid (Below w30.heap.size w30 w31) := Lib.hid hb31
                clear hb31
                rcases hP31 with ⟨h0, rfl⟩ | ⟨l2, A2, c2, h0, rfl, hv2, h12⟩
                · have HPN := Lib.hid h0
                  clear h0
                  go_wp2_with fail
                  refine (rparse27_any Ag ng cg B _ HSG31.out (by omega)).mono ?_
                  rintro e w32 ⟨hb32, hQ32⟩
                  have HB32 : Hid (Below w.heap.size w w32) := Lib.hid (HB31.out.trans (Below.mono hb32 HB31.out.size))
                  rcases hQ32 with ⟨_, rfl⟩ | ⟨l2, v2, h2, _⟩
                  rotate_left 1
                  · rw [HPN.out] at h2; cases h2
                  clear hb32
                  have HNIL32 : Hid (AcV w32 none 0 []) := Lib.hid (AcV.nil _)
                  go_wp2_with fail
                  refine (plain27_any none 0 0 [] _ HNIL32.out (by omega) (fun i => by simp [aAt])).mono ?_
                  rintro e w33 ⟨v33, rfl, ho33, hb33⟩
                  have HB33 : Hid (Below w.heap.size w w33) := Lib.hid (HB32.out.trans (Below.mono hb33 HB32.out.size))
                  have HVx_33 : Hid (AcV w33 none 0 []) := Lib.hid (HNIL32.out.below hb33)
                  obtain ⟨A33, c33, rfl, hv33, _, _, hz33⟩ := ho33.acV (Nat.le_refl _) hb33.size
                  have HVq_33 : Hid (AcV w33 A33 ([]).length ([])) := Lib.hid hv33
                  clear ho33 hb33 hv33 hz33
                  clear HNIL32
                  have hl0 : ([] : List Ac).length = 0 := rfl
                  rw [hl0] at HVq_33 ⊢
                  clear hl0
                  go_wp2_with fail
                  refine (rall27_any A33 none 0 c33 0 0 [] [] false _ HVq_33.out HVx_33.out (by omega) (by omega)).mono ?_
                  rintro e w34 ⟨rfl, hb34⟩
                  have HB34 : Hid (Below w.heap.size w w34) := Lib.hid (HB33.out.trans (Below.mono hb34 HB33.out.size))
                  have HVx_34 : Hid (AcV w34 none 0 []) := Lib.hid (HVx_33.out.below hb34)
                  have HVq_34 : Hid (AcV w34 A33 0 []) := Lib.hid (HVq_33.out.below hb34)
                  clear hb34
                  rw [allF_self []]
                  clear HVx_33 HVq_33
                  go_wp2_with fail
                  refine (awake27_any _).mono ?_
                  rintro e w35 ⟨rfl, hb35⟩
                  have HB35 : Hid (Below w.heap.size w w35) := Lib.hid (HB34.out.trans (Below.mono hb35 HB34.out.size))
                  have HVx_35 : Hid (AcV w35 none 0 []) := Lib.hid (HVx_34.out.below hb35)
                  have HVq_35 : Hid (AcV w35 A33 0 []) := Lib.hid (HVq_34.out.below hb35)
                  clear hb35
                  clear HVx_34 HVq_34
                  go_wp2
                  go_ret
                  exact ⟨rfl, HB35.out⟩
                · have HPS := Lib.hid h0
                  have HMY : Hid (allMay l2) := Lib.hid (parseL_may B.length B l2 (Nat.le_refl _) h0)
                  obtain ⟨n2, hn2⟩ : ∃ n2, l2.length = n2 := ⟨_, rfl⟩
                  have hn29 : n2 < 100000 := by have := HNG.out; omega
                  rw [hn2] at hv2 ⊢
                  have HL2 := Lib.hid hn2
                  have HVx := Lib.hid hv2
                  clear h0 hv2 h12 hn2
                  go_wp2_with fail
                  refine (rparse27_any Ag ng cg B _ HSG31.out (by omega)).mono ?_
                  rintro e w32 ⟨hb32, hQ32⟩
                  have HB32 : Hid (Below w.heap.size w w32) := Lib.hid (HB31.out.trans (Below.mono hb32 HB31.out.size))
                  have HVx_32 : Hid (AcV w32 A2 n2 l2) := Lib.hid (HVx.out.below hb32)
                  clear HVx
                  rcases hQ32 with ⟨h2, _⟩ | ⟨l3, v3, h2, rfl, ho3, h12⟩
                  · rw [HPS.out] at h2; cases h2
                  rw [HPS.out] at h2
                  have hl3 := Option.some.inj h2
                  subst hl3
                  obtain ⟨A3, c3, rfl, hv3, hq1, hq2, hq3⟩ := ho3.acV (Nat.le_refl _) hb32.size
                  rw [HL2.out] at hv3 ⊢
                  have HVr_32 := Lib.hid hv3
                  clear h2 ho3 h12 hv3 hq1 hq2 hq3 hb32
                  go_wp2_with fail
                  refine (plain27_any A2 n2 c2 l2 _ HVx_32.out (by omega) (may_bR HMY.out)).mono ?_
                  rintro e w33 ⟨v33, rfl, ho33, hb33⟩
                  have HB33 : Hid (Below w.heap.size w w33) := Lib.hid (HB32.out.trans (Below.mono hb33 HB32.out.size))
                  have HVx_33 : Hid (AcV w33 A2 n2 l2) := Lib.hid (HVx_32.out.below hb33)
                  have HVr_33 : Hid (AcV w33 A3 n2 l2) := Lib.hid (HVr_32.out.below hb33)
                  obtain ⟨A33, c33, rfl, hv33, _, _, hz33⟩ := ho33.acV (Nat.le_refl _) hb33.size
                  have HVq_33 : Hid (AcV w33 A33 (l2).length (l2)) := Lib.hid hv33
                  clear ho33 hb33 hv33 hz33
                  clear HVx_32 HVr_32
                  rw [HL2.out] at HVq_33 ⊢
                  clear HVx_33
                  go_wp2_with fail
                  refine (rall27_any A33 A3 n2 c33 n2 c3 l2 l2 false _ HVq_33.out HVr_33.out (by omega) (by omega)).mono ?_
                  rintro e w34 ⟨rfl, hb34⟩
                  have HB34 : Hid (Below w.heap.size w w34) := Lib.hid (HB33.out.trans (Below.mono hb34 HB33.out.size))
                  have HVr_34 : Hid (AcV w34 A3 n2 l2) := Lib.hid (HVr_33.out.below hb34)
                  have HVq_34 : Hid (AcV w34 A33 n2 l2) := Lib.hid (HVq_33.out.below hb34)
                  clear hb34
                  rw [allF_self l2]
                  clear HVr_33 HVq_33
                  go_wp2_with fail
                  refine (awake27_any _).mono ?_
                  rintro e w35 ⟨rfl, hb35⟩
                  have HB35 : Hid (Below w.heap.size w w35) := Lib.hid (HB34.out.trans (Below.mono hb35 HB34.out.size))
                  have HVr_35 : Hid (AcV w35 A3 n2 l2) := Lib.hid (HVr_34.out.below hb35)
                  have HVq_35 : Hid (AcV w35 A33 n2 l2) := Lib.hid (HVq_34.out.below hb35)
                  clear hb35
                  clear HVr_34 HVq_34
                  go_wp2
                  go_ret
                  exact ⟨rfl, HB35.out⟩
            · have hznI : ¬ z ≤ (nb : Int) := hzn
              have HN2 : Hid (L.length = nb) := HNB
              have HLB2 : Hid (byteL L) := HLB
              by_cases h40 : 40 < nm
              · have h40I : (40 : Int) < (nm : Int) := by omega
                have hcm := HMM.out.cap
                have h40c : (40 : Int) ≤ (cm : Int) := by omega
                have HM40 : Hid (BS wr w.heap.size Am 40 cm (M.take 40)) := Lib.hid ((HMM.out.below HBW.out).take (by omega))
                clear hcm
                have HLEN : Hid ((L).length + 40 < 1000000000) := Lib.hid (by rw [HN2.out]; omega)
                go_upto_region 19 with (at_builtin; refine wp_apps _ rfl (.tmp 86) (.tmp 87) rfl w1.heap.size (.slice Ab nb cb) (L) rfl HO.out w.heap.size Am 40 cm (M.take 40) rfl HM40.out HMZ.out HLEN.out (Below.size HA.out) ?_; intro v30 w30 ho30 hd30; have HA30 : Hid (After w1 w30) := Lib.hid (Below.trans HA.out hd30); have hby30 : byteL (L ++ M.take 40) := byteL_app HLB2.out HM40.out.byte; obtain ⟨Ag, cg, rfl, hsg⟩ := ho30.bs hby30; obtain ⟨ng, hng⟩ : ∃ x, (L ++ M.take 40).length = x := ⟨_, rfl⟩; rw [hng] at hsg ⊢; have HNG := Lib.hid hng; clear hng; have HSG := Lib.hid hsg; clear ho30 hd30 hsg hby30)
                have HB30 : Hid (Below w.heap.size w w30) := Lib.hid (HB1.out.trans (Below.mono HA30.out HB1.out.size))
                have hng9 : ng ≤ 6292 := by have h1 := HNG.out; rw [List.length_append, HN2.out, HM40.out.len] at h1; omega
                obtain ⟨B, hB⟩ : ∃ B, L ++ M.take 40 = B := ⟨_, rfl⟩
                rw [hB] at HSG HNG
                clear hB
                go_wp2_with fail
                refine (pparse_any Ag ng cg B _ HSG.out (by omega)).mono ?_
                rintro e w31 ⟨hb31, hP31⟩
                have HB31 : Hid (Below w.heap.size w w31) := Lib.hid (HB30.out.trans (Below.mono hb31 HB30.out.size))
                have HSG31 : Hid (BS w31 w31.heap.size Ag ng cg B) := Lib.hid ((HSG.out.below hb31).more hb31.size)
                have HBP : Hid (Below w30.heap.size w30 w31) := Lib.hid hb31
                clear hb31
                rcases hP31 with ⟨h0, rfl⟩ | ⟨l2, A2, c2, h0, rfl, hv2, h12⟩
                · have HPN := Lib.hid h0
                  clear h0
                  go_wp2_with fail
                  refine (rparse27_any Ag ng cg B _ HSG31.out (by omega)).mono ?_
                  rintro e w32 ⟨hb32, hQ32⟩
                  have HB32 : Hid (Below w.heap.size w w32) := Lib.hid (HB31.out.trans (Below.mono hb32 HB31.out.size))
                  rcases hQ32 with ⟨_, rfl⟩ | ⟨l2, v2, h2, _⟩
                  rotate_left 1
                  · rw [HPN.out] at h2; cases h2
                  clear hb32
                  have HNIL32 : Hid (AcV w32 none 0 []) := Lib.hid (AcV.nil _)
                  go_wp2_with fail
                  refine (plain27_any none 0 0 [] _ HNIL32.out (by omega) (fun i => by simp [aAt])).mono ?_
                  rintro e w33 ⟨v33, rfl, ho33, hb33⟩
                  have HB33 : Hid (Below w.heap.size w w33) := Lib.hid (HB32.out.trans (Below.mono hb33 HB32.out.size))
                  have HVx_33 : Hid (AcV w33 none 0 []) := Lib.hid (HNIL32.out.below hb33)
                  obtain ⟨A33, c33, rfl, hv33, _, _, hz33⟩ := ho33.acV (Nat.le_refl _) hb33.size
                  have HVq_33 : Hid (AcV w33 A33 ([]).length ([])) := Lib.hid hv33
                  clear ho33 hb33 hv33 hz33
                  clear HNIL32
                  have hl0 : ([] : List Ac).length = 0 := rfl
                  rw [hl0] at HVq_33 ⊢
                  clear hl0
                  go_wp2_with fail
                  refine (rall27_any A33 none 0 c33 0 0 [] [] false _ HVq_33.out HVx_33.out (by omega) (by omega)).mono ?_
                  rintro e w34 ⟨rfl, hb34⟩
                  have HB34 : Hid (Below w.heap.size w w34) := Lib.hid (HB33.out.trans (Below.mono hb34 HB33.out.size))
                  have HVx_34 : Hid (AcV w34 none 0 []) := Lib.hid (HVx_33.out.below hb34)
                  have HVq_34 : Hid (AcV w34 A33 0 []) := Lib.hid (HVq_33.out.below hb34)
                  clear hb34
                  rw [allF_self []]
                  clear HVx_33 HVq_33
                  go_wp2_with fail
                  refine (awake27_any _).mono ?_
                  rintro e w35 ⟨rfl, hb35⟩
                  have HB35 : Hid (Below w.heap.size w w35) := Lib.hid (HB34.out.trans (Below.mono hb35 HB34.out.size))
                  have HVx_35 : Hid (AcV w35 none 0 []) := Lib.hid (HVx_34.out.below hb35)
                  have HVq_35 : Hid (AcV w35 A33 0 []) := Lib.hid (HVq_34.out.below hb35)
                  clear hb35
                  clear HVx_34 HVq_34
                  go_wp2
                  go_ret
                  exact ⟨rfl, HB35.out⟩
                · have HPS := Lib.hid h0
                  have HMY : Hid (allMay l2) := Lib.hid (parseL_may B.length B l2 (Nat.le_refl _) h0)
                  obtain ⟨n2, hn2⟩ : ∃ n2, l2.length = n2 := ⟨_, rfl⟩
                  have hn29 : n2 < 100000 := by have := HNG.out; omega
                  rw [hn2] at hv2 ⊢
                  have HL2 := Lib.hid hn2
                  have HVx := Lib.hid hv2
                  clear h0 hv2 h12 hn2
                  go_wp2_with fail
                  refine (rparse27_any Ag ng cg B _ HSG31.out (by omega)).mono ?_
                  rintro e w32 ⟨hb32, hQ32⟩
                  have HB32 : Hid (Below w.heap.size w w32) := Lib.hid (HB31.out.trans (Below.mono hb32 HB31.out.size))
                  have HVx_32 : Hid (AcV w32 A2 n2 l2) := Lib.hid (HVx.out.below hb32)
                  clear HVx
                  rcases hQ32 with ⟨h2, _⟩ | ⟨l3, v3, h2, rfl, ho3, h12⟩
                  · rw [HPS.out] at h2; cases h2
                  rw [HPS.out] at h2
                  have hl3 := Option.some.inj h2
                  subst hl3
                  obtain ⟨A3, c3, rfl, hv3, hq1, hq2, hq3⟩ := ho3.acV (Nat.le_refl _) hb32.size
                  rw [HL2.out] at hv3 ⊢
                  have HVr_32 := Lib.hid hv3
                  clear h2 ho3 h12 hv3 hq1 hq2 hq3 hb32
                  go_wp2_with fail
                  refine (plain27_any A2 n2 c2 l2 _ HVx_32.out (by omega) (may_bR HMY.out)).mono ?_
                  rintro e w33 ⟨v33, rfl, ho33, hb33⟩
                  have HB33 : Hid (Below w.heap.size w w33) := Lib.hid (HB32.out.trans (Below.mono hb33 HB32.out.size))
                  have HVx_33 : Hid (AcV w33 A2 n2 l2) := Lib.hid (HVx_32.out.below hb33)
                  have HVr_33 : Hid (AcV w33 A3 n2 l2) := Lib.hid (HVr_32.out.below hb33)
                  obtain ⟨A33, c33, rfl, hv33, _, _, hz33⟩ := ho33.acV (Nat.le_refl _) hb33.size
                  have HVq_33 : Hid (AcV w33 A33 (l2).length (l2)) := Lib.hid hv33
                  clear ho33 hb33 hv33 hz33
                  clear HVx_32 HVr_32
                  rw [HL2.out] at HVq_33 ⊢
                  clear HVx_33
                  go_wp2_with fail
                  refine (rall27_any A33 A3 n2 c33 n2 c3 l2 l2 false _ HVq_33.out HVr_33.out (by omega) (by omega)).mono ?_
                  rintro e w34 ⟨rfl, hb34⟩
                  have HB34 : Hid (Below w.heap.size w w34) := Lib.hid (HB33.out.trans (Below.mono hb34 HB33.out.size))
                  have HVr_34 : Hid (AcV w34 A3 n2 l2) := Lib.hid (HVr_33.out.below hb34)
                  have HVq_34 : Hid (AcV w34 A33 n2 l2) := Lib.hid (HVq_33.out.below hb34)
                  clear hb34
                  rw [allF_self l2]
                  clear HVr_33 HVq_33
                  go_wp2_with fail
                  refine (awake27_any _).mono ?_
                  rintro e w35 ⟨rfl, hb35⟩
                  have HB35 : Hid (Below w.heap.size w w35) := Lib.hid (HB34.out.trans (Below.mono hb35 HB34.out.size))
                  have HVr_35 : Hid (AcV w35 A3 n2 l2) := Lib.hid (HVr_34.out.below hb35)
                  have HVq_35 : Hid (AcV w35 A33 n2 l2) := Lib.hid (HVq_34.out.below hb35)
                  clear hb35
                  clear HVr_34 HVq_34
                  go_wp2
                  go_ret
                  exact ⟨rfl, HB35.out⟩
              · have h40I : ¬ (40 : Int) < (nm : Int) := by omega
                have HM40 : Hid (BS wr w.heap.size Am nm cm M) := Lib.hid (HMM.out.below HBW.out)
                have HLEN : Hid ((L).length + nm < 1000000000) := Lib.hid (by rw [HN2.out]; omega)
                go_upto_region 19 with (at_builtin; refine wp_apps _ rfl (.tmp 86) (.tmp 87) rfl w1.heap.size (.slice Ab nb cb) (L) rfl HO.out w.heap.size Am nm cm (M) rfl HM40.out HMZ.out HLEN.out (Below.size HA.out) ?_; intro v30 w30 ho30 hd30; have HA30 : Hid (After w1 w30) := Lib.hid (Below.trans HA.out hd30); have hby30 : byteL (L ++ M) := byteL_app HLB2.out HM40.out.byte; obtain ⟨Ag, cg, rfl, hsg⟩ := ho30.bs hby30; obtain ⟨ng, hng⟩ : ∃ x, (L ++ M).length = x := ⟨_, rfl⟩; rw [hng] at hsg ⊢; have HNG := Lib.hid hng; clear hng; have HSG := Lib.hid hsg; clear ho30 hd30 hsg hby30)
                have HB30 : Hid (Below w.heap.size w w30) := Lib.hid (HB1.out.trans (Below.mono HA30.out HB1.out.size))
                have hng9 : ng ≤ 6292 := by have h1 := HNG.out; rw [List.length_append, HN2.out, HM40.out.len] at h1; omega
                obtain ⟨B, hB⟩ : ∃ B, L ++ M = B := ⟨_, rfl⟩
                rw [hB] at HSG HNG
                clear hB
                go_wp2_with fail
                refine (pparse_any Ag ng cg B _ HSG.out (by omega)).mono ?_
                rintro e w31 ⟨hb31, hP31⟩
                have HB31 : Hid (Below w.heap.size w w31) := Lib.hid (HB30.out.trans (Below.mono hb31 HB30.out.size))
                have HSG31 : Hid (BS w31 w31.heap.size Ag ng cg B) := Lib.hid ((HSG.out.below hb31).more hb31.size)
                have HBP : Hid (Below w30.heap.size w30 w31) := Lib.hid hb31
                clear hb31
                rcases hP31 with ⟨h0, rfl⟩ | ⟨l2, A2, c2, h0, rfl, hv2, h12⟩
                · have HPN := Lib.hid h0
                  clear h0
                  go_wp2_with fail
                  refine (rparse27_any Ag ng cg B _ HSG31.out (by omega)).mono ?_
                  rintro e w32 ⟨hb32, hQ32⟩
                  have HB32 : Hid (Below w.heap.size w w32) := Lib.hid (HB31.out.trans (Below.mono hb32 HB31.out.size))
                  rcases hQ32 with ⟨_, rfl⟩ | ⟨l2, v2, h2, _⟩
                  rotate_left 1
                  · rw [HPN.out] at h2; cases h2
                  clear hb32
                  have HNIL32 : Hid (AcV w32 none 0 []) := Lib.hid (AcV.nil _)
                  go_wp2_with fail
                  refine (plain27_any none 0 0 [] _ HNIL32.out (by omega) (fun i => by simp [aAt])).mono ?_
                  rintro e w33 ⟨v33, rfl, ho33, hb33⟩
                  have HB33 : Hid (Below w.heap.size w w33) := Lib.hid (HB32.out.trans (Below.mono hb33 HB32.out.size))
                  have HVx_33 : Hid (AcV w33 none 0 []) := Lib.hid (HNIL32.out.below hb33)
                  obtain ⟨A33, c33, rfl, hv33, _, _, hz33⟩ := ho33.acV (Nat.le_refl _) hb33.size
                  have HVq_33 : Hid (AcV w33 A33 ([]).length ([])) := Lib.hid hv33
                  clear ho33 hb33 hv33 hz33
                  clear HNIL32
                  have hl0 : ([] : List Ac).length = 0 := rfl
                  rw [hl0] at HVq_33 ⊢
                  clear hl0
                  go_wp2_with fail
                  refine (rall27_any A33 none 0 c33 0 0 [] [] false _ HVq_33.out HVx_33.out (by omega) (by omega)).mono ?_
                  rintro e w34 ⟨rfl, hb34⟩
                  have HB34 : Hid (Below w.heap.size w w34) := Lib.hid (HB33.out.trans (Below.mono hb34 HB33.out.size))
                  have HVx_34 : Hid (AcV w34 none 0 []) := Lib.hid (HVx_33.out.below hb34)
                  have HVq_34 : Hid (AcV w34 A33 0 []) := Lib.hid (HVq_33.out.below hb34)
                  clear hb34
                  rw [allF_self []]
                  clear HVx_33 HVq_33
                  go_wp2_with fail
                  refine (awake27_any _).mono ?_
                  rintro e w35 ⟨rfl, hb35⟩
                  have HB35 : Hid (Below w.heap.size w w35) := Lib.hid (HB34.out.trans (Below.mono hb35 HB34.out.size))
                  have HVx_35 : Hid (AcV w35 none 0 []) := Lib.hid (HVx_34.out.below hb35)
                  have HVq_35 : Hid (AcV w35 A33 0 []) := Lib.hid (HVq_34.out.below hb35)
                  clear hb35
                  clear HVx_34 HVq_34
                  go_wp2
                  go_ret
                  exact ⟨rfl, HB35.out⟩
                · have HPS := Lib.hid h0
                  have HMY : Hid (allMay l2) := Lib.hid (parseL_may B.length B l2 (Nat.le_refl _) h0)
                  obtain ⟨n2, hn2⟩ : ∃ n2, l2.length = n2 := ⟨_, rfl⟩
                  have hn29 : n2 < 100000 := by have := HNG.out; omega
                  rw [hn2] at hv2 ⊢
                  have HL2 := Lib.hid hn2
                  have HVx := Lib.hid hv2
                  clear h0 hv2 h12 hn2
                  go_wp2_with fail
                  refine (rparse27_any Ag ng cg B _ HSG31.out (by omega)).mono ?_
                  rintro e w32 ⟨hb32, hQ32⟩
                  have HB32 : Hid (Below w.heap.size w w32) := Lib.hid (HB31.out.trans (Below.mono hb32 HB31.out.size))
                  have HVx_32 : Hid (AcV w32 A2 n2 l2) := Lib.hid (HVx.out.below hb32)
                  clear HVx
                  rcases hQ32 with ⟨h2, _⟩ | ⟨l3, v3, h2, rfl, ho3, h12⟩
                  · rw [HPS.out] at h2; cases h2
                  rw [HPS.out] at h2
                  have hl3 := Option.some.inj h2
                  subst hl3
                  obtain ⟨A3, c3, rfl, hv3, hq1, hq2, hq3⟩ := ho3.acV (Nat.le_refl _) hb32.size
                  rw [HL2.out] at hv3 ⊢
                  have HVr_32 := Lib.hid hv3
                  clear h2 ho3 h12 hv3 hq1 hq2 hq3 hb32
                  go_wp2_with fail
                  refine (plain27_any A2 n2 c2 l2 _ HVx_32.out (by omega) (may_bR HMY.out)).mono ?_
                  rintro e w33 ⟨v33, rfl, ho33, hb33⟩
                  have HB33 : Hid (Below w.heap.size w w33) := Lib.hid (HB32.out.trans (Below.mono hb33 HB32.out.size))
                  have HVx_33 : Hid (AcV w33 A2 n2 l2) := Lib.hid (HVx_32.out.below hb33)
                  have HVr_33 : Hid (AcV w33 A3 n2 l2) := Lib.hid (HVr_32.out.below hb33)
                  obtain ⟨A33, c33, rfl, hv33, _, _, hz33⟩ := ho33.acV (Nat.le_refl _) hb33.size
                  have HVq_33 : Hid (AcV w33 A33 (l2).length (l2)) := Lib.hid hv33
                  clear ho33 hb33 hv33 hz33
                  clear HVx_32 HVr_32
                  rw [HL2.out] at HVq_33 ⊢
                  clear HVx_33
                  go_wp2_with fail
                  refine (rall27_any A33 A3 n2 c33 n2 c3 l2 l2 false _ HVq_33.out HVr_33.out (by omega) (by omega)).mono ?_
                  rintro e w34 ⟨rfl, hb34⟩
                  have HB34 : Hid (Below w.heap.size w w34) := Lib.hid (HB33.out.trans (Below.mono hb34 HB33.out.size))
                  have HVr_34 : Hid (AcV w34 A3 n2 l2) := Lib.hid (HVr_33.out.below hb34)
                  have HVq_34 : Hid (AcV w34 A33 n2 l2) := Lib.hid (HVq_33.out.below hb34)
                  clear hb34
                  rw [allF_self l2]
                  clear HVr_33 HVq_33
                  go_wp2_with fail
                  refine (awake27_any _).mono ?_
                  rintro e w35 ⟨rfl, hb35⟩
                  have HB35 : Hid (Below w.heap.size w w35) := Lib.hid (HB34.out.trans (Below.mono hb35 HB34.out.size))
                  have HVr_35 : Hid (AcV w35 A3 n2 l2) := Lib.hid (HVr_34.out.below hb35)
                  have HVq_35 : Hid (AcV w35 A33 n2 l2) := Lib.hid (HVq_34.out.below hb35)
                  clear hb35
                  clear HVr_34 HVq_34
                  go_wp2
                  go_ret
                  exact ⟨rfl, HB35.out⟩
          · have hz0I : ¬ 0 < z := hz0
            have HN2 : Hid (L.length = nb) := HNB
            have HLB2 : Hid (byteL L) := HLB
            by_cases h40 : 40 < nm
            · have h40I : (40 : Int) < (nm : Int) := by omega
              have hcm := HMM.out.cap
              have h40c : (40 : Int) ≤ (cm : Int) := by omega
              have HM40 : Hid (BS wr w.heap.size Am 40 cm (M.take 40)) := Lib.hid ((HMM.out.below HBW.out).take (by omega))
              clear hcm
              have HLEN : Hid ((L).length + 40 < 1000000000) := Lib.hid (by rw [HN2.out]; omega)
              go_upto_region 19 with (at_builtin; refine wp_apps _ rfl (.tmp 86) (.tmp 87) rfl w1.heap.size (.slice Ab nb cb) (L) rfl HO.out w.heap.size Am 40 cm (M.take 40) rfl HM40.out HMZ.out HLEN.out (Below.size HA.out) ?_; intro v30 w30 ho30 hd30; have HA30 : Hid (After w1 w30) := Lib.hid (Below.trans HA.out hd30); have hby30 : byteL (L ++ M.take 40) := byteL_app HLB2.out HM40.out.byte; obtain ⟨Ag, cg, rfl, hsg⟩ := ho30.bs hby30; obtain ⟨ng, hng⟩ : ∃ x, (L ++ M.take 40).length = x := ⟨_, rfl⟩; rw [hng] at hsg ⊢; have HNG := Lib.hid hng; clear hng; have HSG := Lib.hid hsg; clear ho30 hd30 hsg hby30)
              have HB30 : Hid (Below w.heap.size w w30) := Lib.hid (HB1.out.trans (Below.mono HA30.out HB1.out.size))
              have hng9 : ng ≤ 6292 := by have h1 := HNG.out; rw [List.length_append, HN2.out, HM40.out.len] at h1; omega
              obtain ⟨B, hB⟩ : ∃ B, L ++ M.take 40 = B := ⟨_, rfl⟩
              rw [hB] at HSG HNG
              clear hB
              go_wp2_with fail
              refine (pparse_any Ag ng cg B _ HSG.out (by omega)).mono ?_
              rintro e w31 ⟨hb31, hP31⟩
              have HB31 : Hid (Below w.heap.size w w31) := Lib.hid (HB30.out.trans (Below.mono hb31 HB30.out.size))
              have HSG31 : Hid (BS w31 w31.heap.size Ag ng cg B) := Lib.hid ((HSG.out.below hb31).more hb31.size)
              have HBP : Hid (Below w30.heap.size w30 w31) := Lib.hid hb31
              clear hb31
              rcases hP31 with ⟨h0, rfl⟩ | ⟨l2, A2, c2, h0, rfl, hv2, h12⟩
              · have HPN := Lib.hid h0
                clear h0
                go_wp2_with fail
                refine (rparse27_any Ag ng cg B _ HSG31.out (by omega)).mono ?_
                rintro e w32 ⟨hb32, hQ32⟩
                have HB32 : Hid (Below w.heap.size w w32) := Lib.hid (HB31.out.trans (Below.mono hb32 HB31.out.size))
                rcases hQ32 with ⟨_, rfl⟩ | ⟨l2, v2, h2, _⟩
                rotate_left 1
                · rw [HPN.out] at h2; cases h2
                clear hb32
                have HNIL32 : Hid (AcV w32 none 0 []) := Lib.hid (AcV.nil _)
                go_wp2_with fail
                refine (plain27_any none 0 0 [] _ HNIL32.out (by omega) (fun i => by simp [aAt])).mono ?_
                rintro e w33 ⟨v33, rfl, ho33, hb33⟩
                have HB33 : Hid (Below w.heap.size w w33) := Lib.hid (HB32.out.trans (Below.mono hb33 HB32.out.size))
                have HVx_33 : Hid (AcV w33 none 0 []) := Lib.hid (HNIL32.out.below hb33)
                obtain ⟨A33, c33, rfl, hv33, _, _, hz33⟩ := ho33.acV (Nat.le_refl _) hb33.size
                have HVq_33 : Hid (AcV w33 A33 ([]).length ([])) := Lib.hid hv33
                clear ho33 hb33 hv33 hz33
                clear HNIL32
                have hl0 : ([] : List Ac).length = 0 := rfl
                rw [hl0] at HVq_33 ⊢
                clear hl0
                go_wp2_with fail
                refine (rall27_any A33 none 0 c33 0 0 [] [] false _ HVq_33.out HVx_33.out (by omega) (by omega)).mono ?_
                rintro e w34 ⟨rfl, hb34⟩
                have HB34 : Hid (Below w.heap.size w w34) := Lib.hid (HB33.out.trans (Below.mono hb34 HB33.out.size))
                have HVx_34 : Hid (AcV w34 none 0 []) := Lib.hid (HVx_33.out.below hb34)
                have HVq_34 : Hid (AcV w34 A33 0 []) := Lib.hid (HVq_33.out.below hb34)
                clear hb34
                rw [allF_self []]
                clear HVx_33 HVq_33
                go_wp2_with fail
                refine (awake27_any _).mono ?_
                rintro e w35 ⟨rfl, hb35⟩
                have HB35 : Hid (Below w.heap.size w w35) := Lib.hid (HB34.out.trans (Below.mono hb35 HB34.out.size))
                have HVx_35 : Hid (AcV w35 none 0 []) := Lib.hid (HVx_34.out.below hb35)
                have HVq_35 : Hid (AcV w35 A33 0 []) := Lib.hid (HVq_34.out.below hb35)
                clear hb35
                clear HVx_34 HVq_34
                go_wp2
                go_ret
                exact ⟨rfl, HB35.out⟩
              · have HPS := Lib.hid h0
                have HMY : Hid (allMay l2) := Lib.hid (parseL_may B.length B l2 (Nat.le_refl _) h0)
                obtain ⟨n2, hn2⟩ : ∃ n2, l2.length = n2 := ⟨_, rfl⟩
                have hn29 : n2 < 100000 := by have := HNG.out; omega
                rw [hn2] at hv2 ⊢
                have HL2 := Lib.hid hn2
                have HVx := Lib.hid hv2
                clear h0 hv2 h12 hn2
                go_wp2_with fail
                refine (rparse27_any Ag ng cg B _ HSG31.out (by omega)).mono ?_
                rintro e w32 ⟨hb32, hQ32⟩
                have HB32 : Hid (Below w.heap.size w w32) := Lib.hid (HB31.out.trans (Below.mono hb32 HB31.out.size))
                have HVx_32 : Hid (AcV w32 A2 n2 l2) := Lib.hid (HVx.out.below hb32)
                clear HVx
                rcases hQ32 with ⟨h2, _⟩ | ⟨l3, v3, h2, rfl, ho3, h12⟩
                · rw [HPS.out] at h2; cases h2
                rw [HPS.out] at h2
                have hl3 := Option.some.inj h2
                subst hl3
                obtain ⟨A3, c3, rfl, hv3, hq1, hq2, hq3⟩ := ho3.acV (Nat.le_refl _) hb32.size
                rw [HL2.out] at hv3 ⊢
                have HVr_32 := Lib.hid hv3
                clear h2 ho3 h12 hv3 hq1 hq2 hq3 hb32
                go_wp2_with fail
                refine (plain27_any A2 n2 c2 l2 _ HVx_32.out (by omega) (may_bR HMY.out)).mono ?_
                rintro e w33 ⟨v33, rfl, ho33, hb33⟩
                have HB33 : Hid (Below w.heap.size w w33) := Lib.hid (HB32.out.trans (Below.mono hb33 HB32.out.size))
                have HVx_33 : Hid (AcV w33 A2 n2 l2) := Lib.hid (HVx_32.out.below hb33)
                have HVr_33 : Hid (AcV w33 A3 n2 l2) := Lib.hid (HVr_32.out.below hb33)
                obtain ⟨A33, c33, rfl, hv33, _, _, hz33⟩ := ho33.acV (Nat.le_refl _) hb33.size
                have HVq_33 : Hid (AcV w33 A33 (l2).length (l2)) := Lib.hid hv33
                clear ho33 hb33 hv33 hz33
                clear HVx_32 HVr_32
                rw [HL2.out] at HVq_33 ⊢
                clear HVx_33
                go_wp2_with fail
                refine (rall27_any A33 A3 n2 c33 n2 c3 l2 l2 false _ HVq_33.out HVr_33.out (by omega) (by omega)).mono ?_
                rintro e w34 ⟨rfl, hb34⟩
                have HB34 : Hid (Below w.heap.size w w34) := Lib.hid (HB33.out.trans (Below.mono hb34 HB33.out.size))
                have HVr_34 : Hid (AcV w34 A3 n2 l2) := Lib.hid (HVr_33.out.below hb34)
                have HVq_34 : Hid (AcV w34 A33 n2 l2) := Lib.hid (HVq_33.out.below hb34)
                clear hb34
                rw [allF_self l2]
                clear HVr_33 HVq_33
                go_wp2_with fail
                refine (awake27_any _).mono ?_
                rintro e w35 ⟨rfl, hb35⟩
                have HB35 : Hid (Below w.heap.size w w35) := Lib.hid (HB34.out.trans (Below.mono hb35 HB34.out.size))
                have HVr_35 : Hid (AcV w35 A3 n2 l2) := Lib.hid (HVr_34.out.below hb35)
                have HVq_35 : Hid (AcV w35 A33 n2 l2) := Lib.hid (HVq_34.out.below hb35)
                clear hb35
                clear HVr_34 HVq_34
                go_wp2
                go_ret
                exact ⟨rfl, HB35.out⟩
            · have h40I : ¬ (40 : Int) < (nm : Int) := by omega
              have HM40 : Hid (BS wr w.heap.size Am nm cm M) := Lib.hid (HMM.out.below HBW.out)
              have HLEN : Hid ((L).length + nm < 1000000000) := Lib.hid (by rw [HN2.out]; omega)
              go_upto_region 19 with (at_builtin; refine wp_apps _ rfl (.tmp 86) (.tmp 87) rfl w1.heap.size (.slice Ab nb cb) (L) rfl HO.out w.heap.size Am nm cm (M) rfl HM40.out HMZ.out HLEN.out (Below.size HA.out) ?_; intro v30 w30 ho30 hd30; have HA30 : Hid (After w1 w30) := Lib.hid (Below.trans HA.out hd30); have hby30 : byteL (L ++ M) := byteL_app HLB2.out HM40.out.byte; obtain ⟨Ag, cg, rfl, hsg⟩ := ho30.bs hby30; obtain ⟨ng, hng⟩ : ∃ x, (L ++ M).length = x := ⟨_, rfl⟩; rw [hng] at hsg ⊢; have HNG := Lib.hid hng; clear hng; have HSG := Lib.hid hsg; clear ho30 hd30 hsg hby30)
              have HB30 : Hid (Below w.heap.size w w30) := Lib.hid (HB1.out.trans (Below.mono HA30.out HB1.out.size))
              have hng9 : ng ≤ 6292 := by have h1 := HNG.out; rw [List.length_append, HN2.out, HM40.out.len] at h1; omega
              obtain ⟨B, hB⟩ : ∃ B, L ++ M = B := ⟨_, rfl⟩
              rw [hB] at HSG HNG
              clear hB
              go_wp2_with fail
              refine (pparse_any Ag ng cg B _ HSG.out (by omega)).mono ?_
              rintro e w31 ⟨hb31, hP31⟩
              have HB31 : Hid (Below w.heap.size w w31) := Lib.hid (HB30.out.trans (Below.mono hb31 HB30.out.size))
              have HSG31 : Hid (BS w31 w31.heap.size Ag ng cg B) := Lib.hid ((HSG.out.below hb31).more hb31.size)
              have HBP : Hid (Below w30.heap.size w30 w31) := Lib.hid hb31
              clear hb31
              rcases hP31 with ⟨h0, rfl⟩ | ⟨l2, A2, c2, h0, rfl, hv2, h12⟩
              · have HPN := Lib.hid h0
                clear h0
                go_wp2_with fail
                refine (rparse27_any Ag ng cg B _ HSG31.out (by omega)).mono ?_
                rintro e w32 ⟨hb32, hQ32⟩
                have HB32 : Hid (Below w.heap.size w w32) := Lib.hid (HB31.out.trans (Below.mono hb32 HB31.out.size))
                rcases hQ32 with ⟨_, rfl⟩ | ⟨l2, v2, h2, _⟩
                rotate_left 1
                · rw [HPN.out] at h2; cases h2
                clear hb32
                have HNIL32 : Hid (AcV w32 none 0 []) := Lib.hid (AcV.nil _)
                go_wp2_with fail
                refine (plain27_any none 0 0 [] _ HNIL32.out (by omega) (fun i => by simp [aAt])).mono ?_
                rintro e w33 ⟨v33, rfl, ho33, hb33⟩
                have HB33 : Hid (Below w.heap.size w w33) := Lib.hid (HB32.out.trans (Below.mono hb33 HB32.out.size))
                have HVx_33 : Hid (AcV w33 none 0 []) := Lib.hid (HNIL32.out.below hb33)
                obtain ⟨A33, c33, rfl, hv33, _, _, hz33⟩ := ho33.acV (Nat.le_refl _) hb33.size
                have HVq_33 : Hid (AcV w33 A33 ([]).length ([])) := Lib.hid hv33
                clear ho33 hb33 hv33 hz33
                clear HNIL32
                have hl0 : ([] : List Ac).length = 0 := rfl
                rw [hl0] at HVq_33 ⊢
                clear hl0
                go_wp2_with fail
                refine (rall27_any A33 none 0 c33 0 0 [] [] false _ HVq_33.out HVx_33.out (by omega) (by omega)).mono ?_
                rintro e w34 ⟨rfl, hb34⟩
                have HB34 : Hid (Below w.heap.size w w34) := Lib.hid (HB33.out.trans (Below.mono hb34 HB33.out.size))
                have HVx_34 : Hid (AcV w34 none 0 []) := Lib.hid (HVx_33.out.below hb34)
                have HVq_34 : Hid (AcV w34 A33 0 []) := Lib.hid (HVq_33.out.below hb34)
                clear hb34
                rw [allF_self []]
                clear HVx_33 HVq_33
                go_wp2_with fail
                refine (awake27_any _).mono ?_
                rintro e w35 ⟨rfl, hb35⟩
                have HB35 : Hid (Below w.heap.size w w35) := Lib.hid (HB34.out.trans (Below.mono hb35 HB34.out.size))
                have HVx_35 : Hid (AcV w35 none 0 []) := Lib.hid (HVx_34.out.below hb35)
                have HVq_35 : Hid (AcV w35 A33 0 []) := Lib.hid (HVq_34.out.below hb35)
                clear hb35
                clear HVx_34 HVq_34
                go_wp2
                go_ret
                exact ⟨rfl, HB35.out⟩
              · have HPS := Lib.hid h0
                have HMY : Hid (allMay l2) := Lib.hid (parseL_may B.length B l2 (Nat.le_refl _) h0)
                obtain ⟨n2, hn2⟩ : ∃ n2, l2.length = n2 := ⟨_, rfl⟩
                have hn29 : n2 < 100000 := by have := HNG.out; omega
                rw [hn2] at hv2 ⊢
                have HL2 := Lib.hid hn2
                have HVx := Lib.hid hv2
                clear h0 hv2 h12 hn2
                go_wp2_with fail
                refine (rparse27_any Ag ng cg B _ HSG31.out (by omega)).mono ?_
                rintro e w32 ⟨hb32, hQ32⟩
                have HB32 : Hid (Below w.heap.size w w32) := Lib.hid (HB31.out.trans (Below.mono hb32 HB31.out.size))
                have HVx_32 : Hid (AcV w32 A2 n2 l2) := Lib.hid (HVx.out.below hb32)
                clear HVx
                rcases hQ32 with ⟨h2, _⟩ | ⟨l3, v3, h2, rfl, ho3, h12⟩
                · rw [HPS.out] at h2; cases h2
                rw [HPS.out] at h2
                have hl3 := Option.some.inj h2
                subst hl3
                obtain ⟨A3, c3, rfl, hv3, hq1, hq2, hq3⟩ := ho3.acV (Nat.le_refl _) hb32.size
                rw [HL2.out] at hv3 ⊢
                have HVr_32 := Lib.hid hv3
                clear h2 ho3 h12 hv3 hq1 hq2 hq3 hb32
                go_wp2_with fail
                refine (plain27_any A2 n2 c2 l2 _ HVx_32.out (by omega) (may_bR HMY.out)).mono ?_
                rintro e w33 ⟨v33, rfl, ho33, hb33⟩
                have HB33 : Hid (Below w.heap.size w w33) := Lib.hid (HB32.out.trans (Below.mono hb33 HB32.out.size))
                have HVx_33 : Hid (AcV w33 A2 n2 l2) := Lib.hid (HVx_32.out.below hb33)
                have HVr_33 : Hid (AcV w33 A3 n2 l2) := Lib.hid (HVr_32.out.below hb33)
                obtain ⟨A33, c33, rfl, hv33, _, _, hz33⟩ := ho33.acV (Nat.le_refl _) hb33.size
                have HVq_33 : Hid (AcV w33 A33 (l2).length (l2)) := Lib.hid hv33
                clear ho33 hb33 hv33 hz33
                clear HVx_32 HVr_32
                rw [HL2.out] at HVq_33 ⊢
                clear HVx_33
                go_wp2_with fail
                refine (rall27_any A33 A3 n2 c33 n2 c3 l2 l2 false _ HVq_33.out HVr_33.out (by omega) (by omega)).mono ?_
                rintro e w34 ⟨rfl, hb34⟩
                have HB34 : Hid (Below w.heap.size w w34) := Lib.hid (HB33.out.trans (Below.mono hb34 HB33.out.size))
                have HVr_34 : Hid (AcV w34 A3 n2 l2) := Lib.hid (HVr_33.out.below hb34)
                have HVq_34 : Hid (AcV w34 A33 n2 l2) := Lib.hid (HVq_33.out.below hb34)
                clear hb34
                rw [allF_self l2]
                clear HVr_33 HVq_33
                go_wp2_with fail
                refine (awake27_any _).mono ?_
                rintro e w35 ⟨rfl, hb35⟩
                have HB35 : Hid (Below w.heap.size w w35) := Lib.hid (HB34.out.trans (Below.mono hb35 HB34.out.size))
                have HVr_35 : Hid (AcV w35 A3 n2 l2) := Lib.hid (HVr_34.out.below hb35)
                have HVq_35 : Hid (AcV w35 A33 n2 l2) := Lib.hid (HVq_34.out.below hb35)
                clear hb35
                clear HVr_34 HVq_34
                go_wp2
                go_ret
                exact ⟨rfl, HB35.out⟩
end Go.Proofs.Ytkgmggjlnibgmaa
