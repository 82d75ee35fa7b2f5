/-
  Package script: Encode; the chapter's example.
-/
import Derived.Test.YtkgmggjlnibgmaaScJ
import Derived.Test.YtkgmggjlnibgmaaScI
namespace Go.Proofs.Ytkgmggjlnibgmaa
open Go.RowKit Go
set_option linter.unusedVariables false
set_option linter.unusedSimpArgs false
set_option maxRecDepth 100000
def allMay (l : List Ac) : Prop := ∀ i, i < l.length → mayA (aAt l i) = true
def EncTo (w : World) (l : List Ac) (e : Ending) (w' : World) : Prop :=
  Below w.heap.size w w' ∧ ((allMay l ∧ ∃ v, e = .returned (.tuple #[v, .int .i64 0]) ∧ Own w' w.heap.size v (flatA l)) ∨ (¬ allMay l ∧ e = .returned (.tuple #[.slice none 0 0, .int .i64 1])))
def EncR (w : World) (l : List Ac) (iv v : Value) (wr : World) : Prop := ∃ (k : Nat) (x : Value), iv = .int .i64 (k : Int) ∧ x = v ∧ k ≤ l.length ∧ (∀ i, i < k → mayA (aAt l i) = true) ∧ Own wr w.heap.size x (flatA (l.take k)) ∧ Below w.heap.size w wr
theorem flat_take {l : List Ac} {k : Nat} (hk : k < l.length) : flatA (l.take (k + 1)) = flatA (l.take k) ++ bytesA (aAt l k) := by rw [take_succ_aAt hk, flatA_app, flatA_one]
theorem flat_lt {l : List Ac} {k : Nat} (hk : k ≤ l.length) (hn : l.length < 100000) (h : ∀ i, i < k → mayA (aAt l i) = true) : (flatA (l.take k)).length ≤ 104200000 := by
  have h1 := flatA_len (l := l.take k) (fun i hi => by
    have hik : i < k := by rw [List.length_take] at hi; omega
    have e2 : aAt (l.take k) i = aAt l i := by simp [aAt, List.getD, List.getElem?_take_of_lt hik]
    rw [e2]
    obtain ⟨_, _, _, _, _, _, _, _, _, _, h5, _⟩ := mayA_nat (h i hik)
    omega)
  have h2 : (l.take k).length ≤ 100000 := by rw [List.length_take]; omega
  omega
set_option maxHeartbeats 8000000 in
theorem encode_any (A : Option Addr) (n c : Nat) (l : List Ac) (w : World) (hv : AcV w A n l) (hn9 : n < 100000) :
    Calls Try.prog 12 #[.slice A n c] w (EncTo w l) := by
  have HV := Lib.hid hv
  have HL := Lib.hid hv.1
  have HBY := Lib.hid (fun i => hv.byte i)
  have HR : Hid (EncR w l (.int .i64 0) (.slice none 0 0) w) := Lib.hid ⟨0, _, rfl, rfl, by omega, fun i hi => by omega, Own.nil _ _, Below.refl _ _⟩
  clear hv
  go_enter Try.func12, Try.ntmps12
  go_wp2_with fail
  go_loopw [9, 4] (fun iv v wr => EncR w l iv v wr) (fun iv _ _ => (n - intOf iv).toNat)
  case atStart => exact HR.out
  case round =>
    clear HR
    obtain ⟨k, v, rfl, rfl, hk, hall, hO, hb⟩ := hrel
    have HALL := Lib.hid hall
    have HO := Lib.hid hO
    have HB := Lib.hid hb
    have HLT := Lib.hid (flat_lt hk (by rw [HL.out]; exact hn9) hall)
    clear hO hb hall
    rw [HL.out] at hk
    by_cases hlt : k < n
    · have HNX : Hid (mayA (aAt l k) = true → ∀ v' w', Own w' w.heap.size v' (flatA (l.take k) ++ bytesA (aAt l k)) → Below w.heap.size w w' → EncR w l (.int .i64 ((k : Int) + 1)) v' w') := Lib.hid (fun hm v' w' h1 h2 => ⟨k + 1, v', rfl, rfl, by rw [HL.out]; omega, fun i hi => (by
          by_cases e : i = k
          · rw [e]; exact hm
          · exact HALL.out i (by omega)), by rw [flat_take (by rw [HL.out]; exact hlt)]; exact h1, h2⟩)
      have HNO : Hid (mayA (aAt l k) = false → ¬ allMay l) := Lib.hid (fun h h2 => by have := h2 k (by rw [HL.out]; exact hlt); rw [h] at this; cases this)
      obtain ⟨b, o, A1, c1, rfl, hb0, q0, q1, q2, q3, q4, q5, q6, hs1, hz1⟩ := HV.out.at_ (show k < n by omega)
      have p0 : wr.cell? ⟨b, o + k * 7, none⟩ = some (.int .i64 (aAt l k).kind) := (HB.out.cell (p := ⟨b, o + k * 7, none⟩) hb0).trans q0
      have p1 : wr.cell? ⟨b, o + k * 7 + 1, none⟩ = some (.bool (aAt l k).yes) := (HB.out.cell (p := ⟨b, o + k * 7 + 1, none⟩) hb0).trans q1
      have p2 : wr.cell? ⟨b, o + k * 7 + 2, none⟩ = some (.int .i64 (aAt l k).which) := (HB.out.cell (p := ⟨b, o + k * 7 + 2, none⟩) hb0).trans q2
      have p3 : wr.cell? ⟨b, o + k * 7 + 3, none⟩ = some (.int .i64 (aAt l k).k) := (HB.out.cell (p := ⟨b, o + k * 7 + 3, none⟩) hb0).trans q3
      have p4 : wr.cell? ⟨b, o + k * 7 + 4, none⟩ = some (.int .i64 (aAt l k).n) := (HB.out.cell (p := ⟨b, o + k * 7 + 4, none⟩) hb0).trans q4
      have p5 : wr.cell? ⟨b, o + k * 7 + 5, none⟩ = some (.int .i64 (aAt l k).pos) := (HB.out.cell (p := ⟨b, o + k * 7 + 5, none⟩) hb0).trans q5
      have p6 : wr.cell? ⟨b, o + k * 7 + 6, none⟩ = some (.slice A1 (aAt l k).b.length c1) := (HB.out.cell (p := ⟨b, o + k * 7 + 6, none⟩) hb0).trans q6
      have HZ := Lib.hid hz1
      have HBB := Lib.hid (HBY.out k)
      have hlt1 : b < wr.heap.size := Nat.lt_of_lt_of_le hb0 HB.out.size
      obtain ⟨n1, hn1⟩ : ∃ n1, (aAt l k).b.length = n1 := ⟨_, rfl⟩
      rw [hn1] at p6 hs1
      have HN1 := Lib.hid hn1
      have HS1 := Lib.hid hs1
      have HMAY : Hid (∀ V, Below w.heap.size w V → Calls Try.prog 8 #[.agg #[.int .i64 (aAt l k).kind, .bool (aAt l k).yes, .int .i64 (aAt l k).which, .int .i64 (aAt l k).k, .int .i64 (aAt l k).n, .int .i64 (aAt l k).pos, .slice A1 n1 c1]] V (SameTo V (mayA (aAt l k)))) := Lib.hid (fun V hV => pmay_any (aAt l k) A1 n1 c1 V ((HS1.out.below hV).more hV.size))
      have HBT : Hid (mayA (aAt l k) = true → ∀ V, Below w.heap.size w V → Calls Try.prog 26 #[.agg #[.int .i64 (aAt l k).kind, .bool (aAt l k).yes, .int .i64 (aAt l k).which, .int .i64 (aAt l k).k, .int .i64 (aAt l k).n, .int .i64 (aAt l k).pos, .slice A1 n1 c1]] V (GivesO V (bytesA (aAt l k)))) := Lib.hid (fun hm V hV => pbytes_any (aAt l k) A1 n1 c1 hm HZ.out V ((HS1.out.below hV).more hV.size))
      have HBL : Hid (mayA (aAt l k) = true → (bytesA (aAt l k)).length ≤ 1036 ∧ byteL (bytesA (aAt l k))) := Lib.hid (fun hm => ⟨by
        obtain ⟨_, _, _, _, _, _, _, _, _, _, h5, _⟩ := mayA_nat hm
        rw [bytesA_len]; omega, bytesA_byte HBB.out⟩)
      clear q0 q1 q2 q3 q4 q5 q6 hs1 hz1 hb0 hn1
      generalize mayA (aAt l k) = R at *
      generalize bytesA (aAt l k) = bs at *
      generalize (aAt l k).kind = kd at *
      generalize (aAt l k).yes = y at *
      generalize (aAt l k).which = z1 at *
      generalize (aAt l k).k = z2 at *
      generalize (aAt l k).n = z3 at *
      generalize (aAt l k).pos = z4 at *
      generalize flatA (l.take k) = pre at *
      have HA5 : Hid (After wr (wr.alloc (.cells #[.int .i64 kd, .bool y, .int .i64 z1, .int .i64 z2, .int .i64 z3, .int .i64 z4, .slice A1 n1 c1] 28))) := Lib.hid (al1 _ _)
      have HX5 := Lib.hid (heap_alloc_new wr (.cells #[.int .i64 kd, .bool y, .int .i64 z1, .int .i64 z2, .int .i64 z3, .int .i64 z4, .slice A1 n1 c1] 28))
      have HS5 : Hid ((wr.alloc (.cells #[.int .i64 kd, .bool y, .int .i64 z1, .int .i64 z2, .int .i64 z3, .int .i64 z4, .slice A1 n1 c1] 28)).heap.size = wr.heap.size + 1) := Lib.hid (by simp)
      have HBW : Hid (∀ V, After (wr.alloc (.cells #[.int .i64 kd, .bool y, .int .i64 z1, .int .i64 z2, .int .i64 z3, .int .i64 z4, .slice A1 n1 c1] 28)) V → Below w.heap.size w V) := Lib.hid (fun V h => HB.out.trans (Below.mono (After.next HA5.out h) HB.out.size))
      have HC := Lib.hid (HMAY.out _ (HBW.out _ (After.refl _)))
      go_upto_region 5 with (fail)
      generalize wr.alloc (.cells #[.int .i64 kd, .bool y, .int .i64 z1, .int .i64 z2, .int .i64 z3, .int .i64 z4, .slice A1 n1 c1] 28) = W5 at *
      have g0 : W5.cell? ⟨wr.heap.size, 0, none⟩ = some (.int .i64 kd) := blk_cell HX5.out 0
      have g1 : W5.cell? ⟨wr.heap.size, 1, none⟩ = some (.bool y) := blk_cell HX5.out 1
      have g2 : W5.cell? ⟨wr.heap.size, 2, none⟩ = some (.int .i64 z1) := blk_cell HX5.out 2
      have g3 : W5.cell? ⟨wr.heap.size, 3, none⟩ = some (.int .i64 z2) := blk_cell HX5.out 3
      have g4 : W5.cell? ⟨wr.heap.size, 4, none⟩ = some (.int .i64 z3) := blk_cell HX5.out 4
      have g5 : W5.cell? ⟨wr.heap.size, 5, none⟩ = some (.int .i64 z4) := blk_cell HX5.out 5
      have g6 : W5.cell? ⟨wr.heap.size, 6, none⟩ = some (.slice A1 n1 c1) := blk_cell HX5.out 6
      go_wp2_with fail
      refine HC.out.mono ?_
      rintro e w1 ⟨rfl, hb1⟩
      have HA1 : Hid (After W5 w1) := Lib.hid hb1
      have HX1 : Hid (w1.heap[wr.heap.size]? = some (.cells #[.int .i64 kd, .bool y, .int .i64 z1, .int .i64 z2, .int .i64 z3, .int .i64 z4, .slice A1 n1 c1] 28 (0, 0))) := Lib.hid ((hb1.block _ (by rw [HS5.out]; omega)).trans HX5.out)
      clear hb1 g0 g1 g2 g3 g4 g5 g6 p0 p1 p2 p3 p4 p5 p6
      cases R
      · have HF : Hid (EncTo w l (.returned (.tuple #[.slice none 0 0, .int .i64 1])) w1) := Lib.hid ⟨HBW.out _ HA1.out, .inr ⟨HNO.out (by first | rfl | trivial), rfl⟩⟩
        go_wp2
        exact bodyPost_ret (v := .tuple #[.slice none 0 0, .int .i64 1]) (by simp [results, Try.results12, go_sem]) rfl HF.out
      · have HC2 := Lib.hid (HBT.out (by first | rfl | trivial) w1 (HBW.out _ HA1.out))
        have g0 : w1.cell? ⟨wr.heap.size, 0, none⟩ = some (.int .i64 kd) := blk_cell HX1.out 0
        have g1 : w1.cell? ⟨wr.heap.size, 1, none⟩ = some (.bool y) := blk_cell HX1.out 1
        have g2 : w1.cell? ⟨wr.heap.size, 2, none⟩ = some (.int .i64 z1) := blk_cell HX1.out 2
        have g3 : w1.cell? ⟨wr.heap.size, 3, none⟩ = some (.int .i64 z2) := blk_cell HX1.out 3
        have g4 : w1.cell? ⟨wr.heap.size, 4, none⟩ = some (.int .i64 z3) := blk_cell HX1.out 4
        have g5 : w1.cell? ⟨wr.heap.size, 5, none⟩ = some (.int .i64 z4) := blk_cell HX1.out 5
        have g6 : w1.cell? ⟨wr.heap.size, 6, none⟩ = some (.slice A1 n1 c1) := blk_cell HX1.out 6
        go_wp2_with fail
        refine HC2.out.mono ?_
        rintro e w2 ⟨v2, rfl, ho2, hb2⟩
        obtain ⟨A2, c2, rfl, hs2⟩ := ho2.bs (HBL.out (by first | rfl | trivial)).2
        have HS2 := Lib.hid hs2
        have HZ2 := Lib.hid (own_zero ho2)
        have HA2 : Hid (After W5 w2) := Lib.hid (After.next HA1.out hb2)
        have HO2 : Hid (Own w2 w.heap.size v pre) := Lib.hid (HO.out.below (After.next HA5.out HA2.out))
        have HLEN : Hid (pre.length + bs.length < 1000000000) := Lib.hid (by have := (HBL.out (by first | rfl | trivial)).1; have := HLT.out; omega)
        have HSZ2 : Hid (w.heap.size ≤ w2.heap.size) := Lib.hid (HBW.out _ HA2.out).size
        clear ho2 hb2 hs2 g0 g1 g2 g3 g4 g5 g6
        go_upto_region 8 with (at_builtin; refine wp_apps _ rfl (.tmp 16) (.tmp 18) rfl w.heap.size v pre rfl HO2.out w2.heap.size A2 bs.length c2 bs rfl HS2.out HZ2.out HLEN.out HSZ2.out ?_; intro v9 w9 ho9 hd9; have HG : Hid (EncR w l (.int .i64 ((k : Int) + 1)) v9 w9) := Lib.hid (HNX.out (by first | rfl | trivial) v9 w9 ho9 ((HBW.out _ HA2.out).trans hd9)); clear ho9 hd9)
        go_wp2
        go_roundw
        case rel => exact HG.out
        case measure => simp [intOf]; omega
    · have hmI : k = n := by omega
      have HF : Hid (EncTo w l (.returned (.tuple #[v, .int .i64 0])) wr) := Lib.hid ⟨HB.out, .inl ⟨fun i hi => HALL.out i (by rw [HL.out] at hi; omega), v, rfl, by
        have e : l.take k = l := List.take_of_length_le (by rw [HL.out]; omega)
        have h := HO.out
        rw [e] at h; exact h⟩⟩
      clear HO
      go_wp2
      exact bodyPost_ret (v := .tuple #[v, .int .i64 0]) (by simp [results, Try.results12, go_sem]) rfl HF.out
def exA : Ac := ⟨6, false, 0, 0, 5, 0, []⟩
theorem exA_may : mayA exA = true := by decide
theorem exA_flat : flatA [exA] = [6, 0, 0, 0, 0, 0, 5, 0, 0, 0, 0, 0] := by decide
theorem ex_const : (⟨#[6, 0, 0, 0, 0, 0, 5, 0, 0, 0, 0, 0]⟩ : ByteArray) = str [6, 0, 0, 0, 0, 0, 5, 0, 0, 0, 0, 0] := rfl
theorem awake27_any (w : World) : Calls Try.prog 13 #[] w (SameTo w true) := by
  have HC : Hid (Calls Try.prog 12 #[.slice (some ⟨w.heap.size, 0, none⟩) 1 1] (w.alloc (.cells #[.int .i64 6, .bool false, .int .i64 0, .int .i64 0, .int .i64 5, .int .i64 0, .slice none 0 0] 28)) (EncTo (w.alloc (.cells #[.int .i64 6, .bool false, .int .i64 0, .int .i64 0, .int .i64 5, .int .i64 0, .slice none 0 0] 28)) [exA])) := Lib.hid (by
    refine encode_any _ 1 1 [exA] _ ⟨rfl, fun _ => ⟨w.heap.size, 0, rfl, by simp, fun i hi => ?_⟩⟩ (by omega)
    obtain rfl : i = 0 := by simp at hi; exact hi
    refine ⟨none, 0, fun j v hj => ?_, BS.nil _ _, fun _ => rfl⟩
    rw [show 0 + 0 * 7 + j = j by omega, blk_cell (heap_alloc_new w _) j]
    have e : acL (aAt [exA] 0) none (aAt [exA] 0).b.length 0 = [.int .i64 6, .bool false, .int .i64 0, .int .i64 0, .int .i64 5, .int .i64 0, .slice none 0 0] := rfl
    rw [e] at hj
    simpa using hj)
  have HB0 := Lib.hid (al1 w (.cells #[.int .i64 6, .bool false, .int .i64 0, .int .i64 0, .int .i64 5, .int .i64 0, .slice none 0 0] 28))
  go_enter Try.func13, Try.ntmps13
  go_wp2_with fail
  refine HC.out.mono ?_
  rintro e w1 ⟨hb1, h1⟩
  rcases h1 with ⟨_, v, rfl, ho⟩ | ⟨h1, _⟩
  · rw [exA_flat] at ho
    obtain ⟨A2, c2, rfl, hs2⟩ := ho.bs (by intro i; match i with | 0 => decide | 1 => decide | 2 => decide | 3 => decide | 4 => decide | 5 => decide | 6 => decide | 7 => decide | 8 => decide | 9 => decide | 10 => decide | 11 => decide | i + 12 => simp)
    have hc : (convert 24 9 (.slice A2 12 c2)).run Try.prog w1 = .ok (.string (str [6, 0, 0, 0, 0, 0, 5, 0, 0, 0, 0, 0])) w1 := conv_at hs2
    have HB1 : Hid (Below w.heap.size w w1) := Lib.hid (HB0.out.trans (hb1.mono HB0.out.size))
    have hq := str_toList hs2.byte hs2.byte
    rw [decide_eq_true rfl] at hq
    have hq2 := ex_const
    clear ho hs2 hb1
    rw [← hq2] at hc hq
    go_wp2
    go_ret
    exact ⟨rfl, HB1.out⟩
  · exact absurd (show allMay [exA] from fun i hi => by obtain rfl : i = 0 := (by simpa using hi); exact exA_may) h1
end Go.Proofs.Ytkgmggjlnibgmaa
