/-
  Joined: SlZ, SlAa, SlXb, SlAd.
-/
import Derived.Test.YtflgcddgocojpaaDoorSlV0
import Derived.Test.YtflgcddgocojpaaDoorSlV1
import Derived.Test.YtflgcddgocojpaaDoorSlV2
import Derived.Test.YtflgcddgocojpaaDoorSlV3
import Derived.Test.YtflgcddgocojpaaDoorSlV4
import Derived.Test.YtflgcddgocojpaaDoorSlV5
import Derived.Test.YtflgcddgocojpaaDoorSlV6
import Derived.Test.YtflgcddgocojpaaDoorSlVo
import Derived.Test.YtflgcddgocojpaaDoorSlX
namespace Go.Proofs.YtflgcddgocojpaaDoor
set_option maxRecDepth 100000
section
open Go.RowKit Go
set_option linter.unusedVariables false

theorem step18_any (k b q c cl : Nat) (A : Option Addr) (l : List Ob) (o : O18) (Ab : Option Addr) (cb : Nat) (w : World) (hS : SZ w) (hk : k < 8) (hp : PSt w (clZ k) (clS k) b q c A cl l) (ho : Ok18 w o Ab cb) :
    Calls Tryd.prog 8 #[.slice (some ⟨b, q, none⟩) 256 c, .slice A (clS k) cl, .int .i64 (k : Int), .agg #[.int .i64 o.kind, .int .i64 o.k, .int .i64 o.n, .int .i64 o.pos, .int .u64 (o.s : Int), .slice Ab o.b.length cb]] w (StTo w (clZ k) (clS k)) := by
  by_cases h0 : o.kind = 0
  · exact step_0 k b q c cl _ cb _ o.k o.n o.pos h0 o.s A Ab l o.b w ho.ser ho.top hS hk hp ho.bs ho.nil_
  by_cases h1 : o.kind = 1
  · exact step_1 k b q c cl _ cb _ o.k o.n o.pos h1 o.s A Ab l o.b w ho.ser ho.top hS hk hp ho.bs ho.nil_
  by_cases h2 : o.kind = 2
  · exact step_2 k b q c cl _ cb _ o.k o.n o.pos h2 o.s A Ab l o.b w ho.ser ho.top hS hk hp ho.bs ho.nil_
  by_cases h3 : o.kind = 3
  · exact step_3 k b q c cl _ cb _ o.k o.n o.pos h3 o.s A Ab l o.b w ho.ser ho.top hS hk hp ho.bs ho.nil_
  by_cases h4 : o.kind = 4
  · exact step_4 k b q c cl _ cb _ o.k o.n o.pos h4 o.s A Ab l o.b w ho.ser ho.top hS hk hp ho.bs ho.nil_
  by_cases h5 : o.kind = 5
  · exact step_5 k b q c cl _ cb _ o.k o.n o.pos h5 o.s A Ab l o.b w ho.ser ho.top hS hk hp ho.bs ho.nil_
  by_cases h6 : o.kind = 6
  · exact step_6 k b q c cl _ cb _ o.k o.n o.pos h6 o.s A Ab l o.b w ho.ser ho.top hS hk hp ho.bs ho.nil_
  · exact step_o k b q c cl _ cb _ o.k o.n o.pos ⟨h0, h1, h2, h3, h4, h5, h6⟩ o.s A Ab l o.b w ho.ser ho.top hS hk hp ho.bs ho.nil_
end
section
open Go.RowKit Go
set_option linter.unusedVariables false
set_option linter.unusedSimpArgs false
set_option maxHeartbeats 4000000
set_option maxRecDepth 100000

theorem and7s (k : Int) : ∃ j : Nat, j < 8 ∧ bits .and .i64 k 7 = (j : Int) := by
  have h1 : (BitVec.ofInt 64 k).toNat &&& 7 ≤ 7 := Nat.and_le_right
  refine ⟨(BitVec.ofInt 64 k).toNat &&& 7, by omega, ?_⟩
  show IntKind.i64.wrap ((BitVec.ofInt 64 k &&& BitVec.ofInt 64 7).toNat : Int) = _
  rw [BitVec.toNat_and]
  have h2 : (BitVec.ofInt 64 7).toNat = 7 := by decide
  rw [h2]
  exact IntWalk.i64_in _ ⟨by omega, by omega⟩
theorem make256 : ∀ w : World, (Instr.makeSlice 23 (.int .i64 256) (.int .i64 256)).run Tryd.prog w = .ok (.slice (some ⟨w.heap.size, 0, none⟩) 256 256) (w.alloc (.cells (zeros 256) 5)) := make_bytes 256 (by omega)
def Stt (k g : Nat) (w : World) (e : Ending) (w' : World) : Prop := ∃ A cc l, e = .returned (.tuple #[.slice A (clS k) cc, .bool true]) ∧ PSt w' (clZ k) (clS k) g 0 256 A cc l ∧ Below w.heap.size w w'
theorem start18 (k : Nat) (w : World) (hS : SZ w) (hk : k < 8) :
    Calls Tryd.prog 7 #[.slice (some ⟨w.heap.size, 0, none⟩) 256 256, .int .i64 (k : Int)] (w.alloc (.cells (zeros 256) 5)) (Stt k w.heap.size (w.alloc (.cells (zeros 256) 5))) := by
  obtain ⟨z1, z2, z3, z4, z5, -⟩ := cl_fits k hk
  have hb0 : Below w.heap.size w (w.alloc (.cells (zeros 256) 5)) := (Below.refl _ _).alloc (Nat.le_refl _) _
  have hbs := zero_bs (w := w) 256 (by omega)
  have e0 : zb 256 = pageO (clZ k) (List.replicate (clS k) (0, [])) := (zb_page (clZ k) (clS k) (by omega)).symm
  have hm : mayP (clZ k) (clS k) (zb 256) = true := by
    rw [e0]; exact mayP_page (by omega) z2 z3 (okL_rep _ _)
  refine (objects18_any k _ 0 256 _ _ (hS.below hb0) hk hbs).mono ?_
  rintro e w' (⟨h, _⟩ | ⟨_, A, c, rfl, hv, hb⟩)
  · rw [hm] at h; cases h
  · obtain ⟨h1, h2⟩ := mayP_objs (by omega) z3 hbs.len hbs.byte hm
    exact ⟨A, c, _, rfl, ⟨h1, hv, by rw [← h2]; exact (hbs.below hb).more hb.size⟩, hb⟩
def LpS (w0 : World) (k n : Nat) (pv lv ov iv : Value) (wr : World) : Prop := ∃ j b q c A cl l, iv = .int .i64 ((j : Nat) : Int) ∧ .slice (some ⟨b, q, none⟩) 256 c = pv ∧ .slice A (clS k) cl = lv ∧ ov = .bool true ∧ PSt wr (clZ k) (clS k) b q c A cl l ∧ j ≤ n ∧ Below w0.heap.size w0 wr
end
section
open Go.RowKit Go Go.WideShapes Go.ChangeShapes Go.Deep
set_option linter.unusedVariables false
set_option linter.unusedSimpArgs false
set_option maxRecDepth 100000
def OpOf (w : World) (g : Array Value) : Prop := ∃ (kd K N at_ : Int) (s n c : Nat) (A : Option Addr) (b : List Nat), g = #[.int .i64 kd, .int .i64 K, .int .i64 N, .int .i64 at_, .int .u64 (s : Int), .slice A n c] ∧ BS w w.heap.size A n c b ∧ (A = none → c = 0)
theorem cell_int : Tryd.prog.cellsOf 3 = 1 := by kernel_rfl
theorem cell_u64 : Tryd.prog.cellsOf 27 = 1 := by kernel_rfl
theorem cell_by : Tryd.prog.cellsOf 23 = 1 := by kernel_rfl
section
variable {H : Type} {enc : TypeId × Value → H} {w : World}
theorem op18_open {g : Array Value} {d : DataW H} {p : List MemPlace} (hs : g.size = 6) (h : DataW.Trod enc Tryd.prog w 0 (fun _ => true) true 29 (.agg g) d p) : OpOf w g := by
  obtain ⟨fuel, hf⟩ := h
  have hc : (Value.agg g).cells.toList = g.toList := rfl
  rw [hc] at hf
  obtain ⟨cs, rfl⟩ : ∃ cs : List Value, g = cs.toArray := ⟨g.toList, by simp⟩
  obtain ⟨a0, a1, a2, a3, a4, a5, rfl⟩ : ∃ a0 a1 a2 a3 a4 a5, cs = [a0, a1, a2, a3, a4, a5] := by
    match cs, hs with
    | [a0, a1, a2, a3, a4, a5], _ => exact ⟨_, _, _, _, _, _, rfl⟩
  obtain ⟨ys, k, _, _, hl, hyl, hf⟩ := DataW.trod_struct Tryd.underlying29 hf
  have r0 : DataW.trod enc Tryd.prog w 0 (fun _ => true) true k 3 (([a0, a1, a2, a3, a4, a5].drop 0).take (Tryd.prog.cellsOf 3)) = ys[0]? := hf 0 _ rfl
  have r1 : DataW.trod enc Tryd.prog w 0 (fun _ => true) true k 3 (([a0, a1, a2, a3, a4, a5].drop 1).take (Tryd.prog.cellsOf 3)) = ys[1]? := hf 1 _ rfl
  have r2 : DataW.trod enc Tryd.prog w 0 (fun _ => true) true k 3 (([a0, a1, a2, a3, a4, a5].drop 2).take (Tryd.prog.cellsOf 3)) = ys[2]? := hf 2 _ rfl
  have r3 : DataW.trod enc Tryd.prog w 0 (fun _ => true) true k 3 (([a0, a1, a2, a3, a4, a5].drop 3).take (Tryd.prog.cellsOf 3)) = ys[3]? := hf 3 _ rfl
  have r4 : DataW.trod enc Tryd.prog w 0 (fun _ => true) true k 27 (([a0, a1, a2, a3, a4, a5].drop 4).take (Tryd.prog.cellsOf 27)) = ys[4]? := hf 4 _ rfl
  have r5 : DataW.trod enc Tryd.prog w 0 (fun _ => true) true k 23 (([a0, a1, a2, a3, a4, a5].drop 5).take (Tryd.prog.cellsOf 23)) = ys[5]? := hf 5 _ rfl
  rw [cell_int] at r0 r1 r2 r3
  rw [cell_u64] at r4
  rw [cell_by] at r5
  have hyl6 : ys.length = 6 := hyl
  rw [List.getElem?_eq_getElem (by omega)] at r0 r1 r2 r3 r4 r5
  obtain ⟨K0, h0, _, _⟩ := DataW.trod_int Tryd.underlying3 r0
  obtain ⟨K1, h1, _, _⟩ := DataW.trod_int Tryd.underlying3 r1
  obtain ⟨K2, h2, _, _⟩ := DataW.trod_int Tryd.underlying3 r2
  obtain ⟨K3, h3, _, _⟩ := DataW.trod_int Tryd.underlying3 r3
  obtain ⟨K4, h4, _, hw⟩ := DataW.trod_int Tryd.underlying27 r4
  have e0 : a0 = .int .i64 K0 := by simpa using h0
  have e1 : a1 = .int .i64 K1 := by simpa using h1
  have e2 : a2 = .int .i64 K2 := by simpa using h2
  have e3 : a3 = .int .i64 K3 := by simpa using h3
  have e4 : a4 = .int .u64 K4 := by simpa using h4
  obtain ⟨q, hq, rfl⟩ := nat_u64 hw
  obtain ⟨A2, n2, m2, l2, q2, b2, z2⟩ := bs_of_cell18 (v := a5) r5
  subst e0 e1 e2 e3 e4 q2
  exact ⟨K0, K1, K2, K3, q, n2, m2, A2, l2, rfl, b2, z2⟩
end
end
section
open Go.RowKit Go
set_option linter.unusedVariables false
set_option linter.unusedSimpArgs false
set_option maxHeartbeats 4000000
set_option maxRecDepth 100000

theorem O18V.below {w w' : World} {A : Option Addr} {n : Nat} {l : List O18} (h : O18V w A n l) (hb : Below w.heap.size w w') : O18V w' A n l :=
  ⟨h.1, fun hn => by
    obtain ⟨b, o, e, h1, h2⟩ := h.2 hn
    refine ⟨b, o, e, Nat.lt_of_lt_of_le h1 hb.size, fun i hi => ?_⟩
    obtain ⟨A1, c1, h3, h4⟩ := h2 i hi
    exact ⟨A1, c1, fun j v hj => (hb.cell (p := ⟨b, o + i * 6 + j, none⟩) h1).trans (h3 j v hj), h4.below hb⟩⟩
theorem set_back {l : List Ob} {k : Nat} (hk : k < l.length) (h : oAt l k = (0, [])) : l.set k (0, []) = l := by
  have e : l[k] = (0, []) := by
    unfold oAt at h
    rw [List.getD_eq_getElem?_getD, List.getElem?_eq_getElem hk] at h; exact h
  rw [← e]; exact List.set_getElem_self hk
theorem bs_set6 {w : World} {b q c g i : Nat} {t : List Nat} {v : Value} {cs : Array Value} {ty : TypeId} (h : BS w w.heap.size (some ⟨b, q, none⟩) 256 c t) (hg : w.heap[g]? = some (.cells cs ty (0, 0))) (hc : cs.size ≤ 6) : BS (w.setCell ⟨g, i, none⟩ v) (w.setCell ⟨g, i, none⟩ v).heap.size (some ⟨b, q, none⟩) 256 c t := by
  obtain ⟨b2, o2, e, hb, hcell⟩ := h.at_ (by omega)
  have hne : b ≠ g := by
    rintro rfl
    injection e with e; injection e with e1 e2
    subst e1 e2
    have h1 := hcell 255 (by omega)
    rw [blk_cell hg, Array.getElem?_eq_none (by omega)] at h1
    cases h1
  obtain ⟨h1, h2, h3, h4, h5⟩ := h
  refine ⟨h1, h2, h3, h4, fun hn => ?_⟩
  obtain ⟨b3, o3, e3, hb3, hc3⟩ := h5 hn
  refine ⟨b3, o3, e3, by rw [size_set]; exact hb3, fun i hi => ?_⟩
  injection e3 with e3; injection e3 with e4 e5
  rw [World.cell?_setCell_other _ _ _ _ (by intro e; injection e with e6; exact hne (e4.trans e6.symm |>.trans rfl |> fun x => by omega))]
  exact hc3 i hi
theorem slotTrace_any (c0 : Int) (A0 : Option Addr) (n cc s0 : Nat) (N0 kd0 K0 n0 at0 : Int) (ss mb cb : Nat) (Ab : Option Addr) (pb : List Nat) (l : List O18) (w : World) (hv : O18V w A0 n l) (hn9 : n ≤ 9223372036854775807) (hs64 : s0 < 2 ^ 64) (hb : BS w w.heap.size Ab mb cb pb) (hbz : Ab = none → cb = 0) (hS : SZ w) :
    Calls Tryd.prog 5 #[.int .i64 c0, .slice A0 n cc, .int .u64 (s0 : Int), .int .i64 N0, .agg #[.int .i64 kd0, .int .i64 K0, .int .i64 n0, .int .i64 at0, .int .u64 (ss : Int), .slice Ab mb cb]] w fun e w' => e = .returned (.bool true) ∧ Below w.heap.size w w' := by
  obtain ⟨k, hk, hand⟩ := and7s c0
  have HM := Lib.hid make256
  have HBW : Hid (Below w.heap.size w (w.alloc (.cells #[.int .i64 kd0, .int .i64 K0, .int .i64 n0, .int .i64 at0, .int .u64 (ss : Int), .slice Ab mb cb] 29))) := Lib.hid ((Below.refl _ _).alloc (Nat.le_refl _) _)
  have HXX : Hid (w.heap.size < (w.alloc (.cells #[.int .i64 kd0, .int .i64 K0, .int .i64 n0, .int .i64 at0, .int .u64 (ss : Int), .slice Ab mb cb] 29)).heap.size) := Lib.hid (by simp)
  have HBXC : Hid ((w.alloc (.cells #[.int .i64 kd0, .int .i64 K0, .int .i64 n0, .int .i64 at0, .int .u64 (ss : Int), .slice Ab mb cb] 29)).heap[w.heap.size]? = some (.cells #[.int .i64 kd0, .int .i64 K0, .int .i64 n0, .int .i64 at0, .int .u64 (ss : Int), .slice Ab mb cb] 29 (0, 0))) := Lib.hid (heap_alloc_new _ _)
  have HB0 : Hid (Below (w.alloc (.cells #[.int .i64 kd0, .int .i64 K0, .int .i64 n0, .int .i64 at0, .int .u64 (ss : Int), .slice Ab mb cb] 29)).heap.size (w.alloc (.cells #[.int .i64 kd0, .int .i64 K0, .int .i64 n0, .int .i64 at0, .int .u64 (ss : Int), .slice Ab mb cb] 29)) ((w.alloc (.cells #[.int .i64 kd0, .int .i64 K0, .int .i64 n0, .int .i64 at0, .int .u64 (ss : Int), .slice Ab mb cb] 29)).alloc (.cells (zeros 256) 5))) := Lib.hid ((Below.refl _ _).alloc (Nat.le_refl _) _)
  have hsz : (w.alloc (.cells #[.int .i64 kd0, .int .i64 K0, .int .i64 n0, .int .i64 at0, .int .u64 (ss : Int), .slice Ab mb cb] 29)).heap.size = w.heap.size + 1 := by simp
  have HST := Lib.hid (start18 k (w.alloc (.cells #[.int .i64 kd0, .int .i64 K0, .int .i64 n0, .int .i64 at0, .int .u64 (ss : Int), .slice Ab mb cb] 29)) (hS.below HBW.out) hk)
  have HS1 : Hid (∀ w1 A1 cc1 l1, PSt w1 (clZ k) (clS k) (w.alloc (.cells #[.int .i64 kd0, .int .i64 K0, .int .i64 n0, .int .i64 at0, .int .u64 (ss : Int), .slice Ab mb cb] 29)).heap.size 0 256 A1 cc1 l1 → Below ((w.alloc (.cells #[.int .i64 kd0, .int .i64 K0, .int .i64 n0, .int .i64 at0, .int .u64 (ss : Int), .slice Ab mb cb] 29)).alloc (.cells (zeros 256) 5)).heap.size ((w.alloc (.cells #[.int .i64 kd0, .int .i64 K0, .int .i64 n0, .int .i64 at0, .int .u64 (ss : Int), .slice Ab mb cb] 29)).alloc (.cells (zeros 256) 5)) w1 → LpS (w.alloc (.cells #[.int .i64 kd0, .int .i64 K0, .int .i64 n0, .int .i64 at0, .int .u64 (ss : Int), .slice Ab mb cb] 29)) k n (.slice (some ⟨(w.alloc (.cells #[.int .i64 kd0, .int .i64 K0, .int .i64 n0, .int .i64 at0, .int .u64 (ss : Int), .slice Ab mb cb] 29)).heap.size, 0, none⟩) 256 256) (.slice A1 (clS k) cc1) (.bool true) (.int .i64 0) w1) := Lib.hid (fun w1 A1 cc1 l1 hp1 hb1 => ⟨0, _, _, _, _, _, _, rfl, rfl, rfl, rfl, hp1, by omega, HB0.out.trans (hb1.mono HB0.out.size)⟩)
  have HZ := Lib.hid hS
  have HV := Lib.hid (hv.below HBW.out)
  have HSP := Lib.hid (fun wr (h : Below (w.alloc (.cells #[.int .i64 kd0, .int .i64 K0, .int .i64 n0, .int .i64 at0, .int .u64 (ss : Int), .slice Ab mb cb] 29)).heap.size (w.alloc (.cells #[.int .i64 kd0, .int .i64 K0, .int .i64 n0, .int .i64 at0, .int .u64 (ss : Int), .slice Ab mb cb] 29)) wr) b q c A cl l o Ab cb (hp : PSt wr (clZ k) (clS k) b q c A cl l) (ho : Ok18 wr o Ab cb) => step18_any k b q c cl A l o Ab cb wr (hS.below (HBW.out.trans (h.mono HBW.out.size))) hk hp ho)
  have HAW := Lib.hid (fun wr (h : Below w.heap.size w wr) => awake18_any wr (hS.below h))
  have HPM0 := Lib.hid hb
  unfold Stt at HST
  rw [hsz] at HST
  clear hS hv hb hbz
  go_enter Tryd.func5, Tryd.ntmps5
  have hM := HM.out
  go_wp2_with fail
  refine HST.out.mono ?_
  rintro e w1 ⟨A1, cc1, l1, rfl, hp1, hb1⟩
  have HS1 := Lib.hid (HS1.out w1 A1 cc1 l1 (by rw [hsz]; exact hp1) hb1)
  rw [hsz] at HS1
  clear hp1 hb1 hM HST hsz HB0
  generalize (w.alloc (.cells #[.int .i64 kd0, .int .i64 K0, .int .i64 n0, .int .i64 at0, .int .u64 (ss : Int), .slice Ab mb cb] 29)) = wb at *
  go_wp2_with fail
  go_loopw [11, 12, 13, 36] (fun pv lv ov iv wr => LpS wb k n pv lv ov iv wr) (fun _ _ _ iv _ => (n - intOf iv).toNat)
  case atStart => exact HS1.out
  case round =>
    clear HS1
    obtain ⟨j, b, q, c, A, cl, l', rfl, rfl, rfl, rfl, hp, hj, hb⟩ := hrel
    have HB := Lib.hid hb
    have HP := Lib.hid hp
    clear hb hp
    by_cases hlt : j < n
    · obtain ⟨ba, oa, A1, c1, rfl, hba, q0, q1, q2, q3, q4, q5, hok⟩ := HV.out.at_ hlt
      have hlt1 : ba < wr.heap.size := Nat.lt_of_lt_of_le hba HB.out.size
      have p0 := (HB.out.cell (p := ⟨ba, oa + j * 6, none⟩) hba).trans q0
      have p1 := (HB.out.cell (p := ⟨ba, oa + j * 6 + 1, none⟩) hba).trans q1
      have p2 := (HB.out.cell (p := ⟨ba, oa + j * 6 + 2, none⟩) hba).trans q2
      have p3 := (HB.out.cell (p := ⟨ba, oa + j * 6 + 3, none⟩) hba).trans q3
      have p4 := (HB.out.cell (p := ⟨ba, oa + j * 6 + 4, none⟩) hba).trans q4
      have p5 := (HB.out.cell (p := ⟨ba, oa + j * 6 + 5, none⟩) hba).trans q5
      have HOK0 := Lib.hid (hok.below HB.out)
      have HBN := Lib.hid (fun (wx : World) (o : Obj) => (Below.refl wx.heap.size wx).alloc (Nat.le_refl _) o)
      clear q0 q1 q2 q3 q4 q5 hba hok
      generalize o18At l j = oo at *
      obtain ⟨kd, K, N, at_, s, bb⟩ := oo
      dsimp only at *
      have HS5 := Lib.hid (HSP.out (wr.alloc (.cells #[.int .i64 kd, .int .i64 K, .int .i64 N, .int .i64 at_, .int .u64 (s : Int), .slice A1 bb.length c1] 29)) (HB.out.trans ((HBN.out _ _).mono HB.out.size)) b q c A cl l' ⟨kd, K, N, at_, s, bb⟩ A1 c1 (HP.out.below (HBN.out _ _)) (HOK0.out.below (HBN.out _ _)))
      dsimp only at HS5
      have HB5 := Lib.hid (HB.out.trans ((HBN.out wr (.cells #[.int .i64 kd, .int .i64 K, .int .i64 N, .int .i64 at_, .int .u64 (s : Int), .slice A1 bb.length c1] 29)).mono HB.out.size))
      have HP5 := Lib.hid (HP.out.below (HBN.out wr (.cells #[.int .i64 kd, .int .i64 K, .int .i64 N, .int .i64 at_, .int .u64 (s : Int), .slice A1 bb.length c1] 29)))
      generalize bb.length = nb at *
      unfold StTo at HS5
      have HNXT : Hid (∀ w' b' q' c' A' cl' l2, PSt w' (clZ k) (clS k) b' q' c' A' cl' l2 → Below wb.heap.size wb w' → LpS wb k n (.slice (some ⟨b', q', none⟩) 256 c') (.slice A' (clS k) cl') (.bool true) (.int .i64 ((j : Int) + 1)) w') := Lib.hid (fun w' b' q' c' A' cl' l2 h1 h2 => ⟨j + 1, b', q', c', A', cl', l2, rfl, rfl, rfl, rfl, h1, by omega, h2⟩)
      clear HBN
      by_cases h20 : j < 20
      · have hI : (j : Int) < 20 := by omega
        go_wp2_with fail
        refine HS5.out.mono ?_
        rintro e w2 ⟨hb2, b2, q2, c2, A2, cl2, l2, rfl, hp2⟩
        have HB2 := Lib.hid (HB5.out.trans (hb2.mono HB5.out.size))
        have HP2 := Lib.hid hp2
        clear hb2 hp2 p0 p1 p2 p3 p4 p5
        have HF := Lib.hid (HNXT.out w2 _ _ _ _ _ _ HP2.out HB2.out)
        go_wp2_with fail
        go_roundw
        case rel => exact HF.out
        case measure => simp [intOf]; omega
      · have hI : ¬ (j : Int) < 20 := by omega
        have HF := Lib.hid (HNXT.out _ _ _ _ _ _ _ HP5.out HB5.out)
        go_wp2_with fail
        go_roundw
        case rel => exact HF.out
        case measure => simp [intOf]; omega
    · obtain rfl : j = n := by omega
      have HBo := Lib.hid (HBW.out.trans (HB.out.mono HBW.out.size))
      have HTK := Lib.hid (take_o k b q c s0 N0 l' wr hs64 (HZ.out.below HBo.out) hk HP.out.ok HP.out.pg)
      unfold TkTo at HTK
      have hlen := HP.out.ok.len
      go_wp2_with fail
      refine HTK.out.mono ?_
      rintro e w2 ⟨hb2, (⟨hx, rfl⟩ | ⟨hx, hy, rfl⟩ | ⟨hx, kk, hkk, hf, hg, h, cc2, rfl, hbs2, hok2⟩)⟩
      · have HB2 := Lib.hid (HBo.out.trans (hb2.mono HBo.out.size))
        clear hb2 hx HTK
        have HA := Lib.hid (HAW.out _ HB2.out)
        go_wp2_with fail
        refine HA.out.mono ?_
        rintro e w3 ⟨rfl, hb3⟩
        have HF := Lib.hid (HB2.out.trans (hb3.mono HB2.out.size))
        clear hb3
        go_wp2_with fail
        go_ret
        exact ⟨rfl, HF.out⟩
      · have HB2 := Lib.hid (HBo.out.trans (hb2.mono HBo.out.size))
        clear hb2 hx hy HTK
        have HA := Lib.hid (HAW.out _ HB2.out)
        go_wp2_with fail
        refine HA.out.mono ?_
        rintro e w3 ⟨rfl, hb3⟩
        have HF := Lib.hid (HB2.out.trans (hb3.mono HB2.out.size))
        clear hb3
        go_wp2_with fail
        go_ret
        exact ⟨rfl, HF.out⟩
      · have HB2 := Lib.hid (HBo.out.trans (hb2.mono HBo.out.size))
        have hfn : 1 ≤ N0 ∧ s0 ≠ 0 := by
          unfold fitB servesB holdsB at hx
          simp only [Bool.and_eq_true, decide_eq_true_iff] at hx
          omega
        obtain ⟨nn, rfl⟩ : ∃ nn : Nat, N0 = (nn : Int) := ⟨N0.toNat, by omega⟩
        rw [Int.toNat_natCast] at hbs2 hok2
        have hkl : kk < l'.length := by omega
        have HFZ : Hid (oAt l' kk = (0, [])) := Lib.hid (by
          have h1 := free_iffO.1 hf
          rcases (HP.out.ok.at_ kk).which with ⟨h2, h3⟩ | ⟨h2, _⟩
          · exact Prod.ext h2 h3
          · omega)
        have HS0 : Hid (1 ≤ s0) := Lib.hid (by omega)
        have hy := ((HB.out.trans (hb2.mono HB.out.size)).block _ HXX.out).trans HBXC.out
        obtain ⟨l2, hl2⟩ : ∃ l2, l2 = l'.set kk (s0, zb nn) := ⟨_, rfl⟩
        have HL2 := Lib.hid hl2
        rw [← hl2] at hbs2 hok2
        have HOK2 := Lib.hid hok2
        have HPG0 := Lib.hid ((HP.out.pg.below hb2).more hb2.size)
        clear hl2 hok2 HTK hf hg hx hfn
        by_cases hcut : nn < mb
        · have hcI : (nn : Int) < (mb : Int) := by omega
          have hncb : nn ≤ cb := by have := HPM0.out.cap; omega
          have y5 : w2.cell? ⟨w.heap.size, 5, none⟩ = some (.slice Ab mb cb) := blk_cell hy 5
          have yf : w2.frozen? ⟨w.heap.size, 5, none⟩ = false := blk_free hy 5
          have HBS2 := Lib.hid (bs_set6 hbs2 (i := 5) (v := .slice Ab nn cb) hy (by simp))
          have HPG2 := Lib.hid (bs_set6 HPG0.out (i := 5) (v := .slice Ab nn cb) hy (by simp))
          have HB2x := Lib.hid (HB2.out.setCell (p := ⟨w.heap.size, 5, none⟩) (Nat.le_refl _) (.slice Ab nn cb))
          obtain ⟨pmx, hpx⟩ : ∃ pmx, pmx = pb.take nn := ⟨_, rfl⟩
          have HPM2 : Hid (BS (w2.setCell ⟨w.heap.size, 5, none⟩ (.slice Ab nn cb)) (w2.setCell ⟨w.heap.size, 5, none⟩ (.slice Ab nn cb)).heap.size Ab nn cb pmx) := Lib.hid (by rw [hpx]; exact ((HPM0.out.below HB2x.out).more HB2x.out.size).take (by omega))
          have HPL : Hid (pmx.length ≤ nn) := Lib.hid (by rw [HPM2.out.len]; exact Nat.le_refl _)
          clear hy hb2 hbs2 hpx
          have ho2 : oAt l2 kk = (s0, zb nn) := by rw [HL2.out, oAt_set _ _ _ hkl, if_pos rfl]
          have hh2 : hasO l2 (kk : Int) = true := by
            unfold hasO; rw [decide_eq_true_iff, Int.toNat_natCast, ho2, HL2.out, List.length_set]
            exact ⟨by omega, by omega, HS0.out⟩
          have HWR0 := write_o k h 0 cc2 (kk : Int) 0 Ab nn cb pmx l2 (w2.setCell ⟨w.heap.size, 5, none⟩ (.slice Ab nn cb)) (by omega) (HZ.out.below HB2x.out) hk HOK2.out HBS2.out HPM2.out
          unfold WtTo at HWR0
          rw [Int.toNat_natCast, ho2] at HWR0
          have HWR := Lib.hid HWR0
          clear HWR0
          obtain ⟨l3, hl3⟩ : ∃ l3, l3 = l2.set kk (s0, splL (zb nn) (0 : Int).toNat pmx) := ⟨_, rfl⟩
          have hwB : wrB l2 (kk : Int) 0 pmx.length = true := by
            unfold wrB; rw [decide_eq_true_iff, Int.toNat_natCast, ho2]
            show 0 ≤ (0 : Int) ∧ (0 : Int) + _ ≤ (((zb nn).length : Nat) : Int)
            simp only [zb, List.length_replicate]; have := HPL.out; omega
          have HN2 : Hid (l2.length = l'.length) := Lib.hid (by rw [HL2.out, List.length_set])
          have HL3 := Lib.hid hl3
          have HH2 := Lib.hid hh2
          have HWB := Lib.hid hwB
          clear hl3 hh2 hwB ho2
          go_wp2_with fail
          refine HWR.out.mono ?_
          rintro e w3 ⟨hb3, (⟨hx, _⟩ | ⟨_, hx, _⟩ | ⟨hx, hy, h3, cc3, rfl, hbs3, hok3⟩)⟩
          · rw [HH2.out] at hx; cases hx
          · rw [HWB.out] at hx; cases hx
          rw [← HL3.out] at hbs3 hok3
          have HB3 := Lib.hid (HB2x.out.trans (hb3.mono HB2x.out.size))
          have HPG3 := Lib.hid ((HPG2.out.below hb3).more hb3.size)
          have ho3 : oAt l3 kk = (s0, splL (zb nn) (0 : Int).toNat pmx) := by rw [HL3.out, oAt_set _ _ _ (by rw [HN2.out]; exact hkl), if_pos rfl]
          have HN3 : Hid (l3.length = l'.length) := Lib.hid (by rw [HL3.out, List.length_set, HN2.out])
          have hh3 : hasO l3 (kk : Int) = true := by
            unfold hasO; rw [decide_eq_true_iff, Int.toNat_natCast, ho3, HN3.out]
            exact ⟨by omega, by omega, HS0.out⟩
          have HRZ0 := res_o k h3 0 cc3 (kk : Int) 1 l3 w3 (HZ.out.below HB3.out) hk hok3 hbs3
          unfold RzTo at HRZ0
          rw [Int.toNat_natCast, ho3] at HRZ0
          have HRZ := Lib.hid HRZ0
          have hhB : holdsB (clZ k) 1 = true := by
            have := (cl_fits k hk).1
            unfold holdsB; rw [decide_eq_true_iff]; omega
          obtain ⟨l4, hl4⟩ : ∃ l4, l4 = l3.set kk (s0, padL (splL (zb nn) (0 : Int).toNat pmx) (1 : Int).toNat) := ⟨_, rfl⟩
          have HL4 := Lib.hid hl4
          have HH3 := Lib.hid hh3
          have HHB := Lib.hid hhB
          clear HRZ0 hl4 hh3 hhB ho3 hb3 hbs3 hok3 hx hy
          go_wp2_with fail
          refine HRZ.out.mono ?_
          rintro e w4 ⟨hb4, (⟨hx, _⟩ | ⟨_, hx, _⟩ | ⟨hx, hy, h4, cc4, rfl, hbs4, hok4⟩)⟩
          · rw [HH3.out] at hx; cases hx
          · rw [HHB.out] at hx; cases hx
          rw [← HL4.out] at hbs4 hok4
          have HB4 := Lib.hid (HB3.out.trans (hb4.mono HB3.out.size))
          have HPG4 := Lib.hid ((HPG3.out.below hb4).more hb4.size)
          have hh4 : hasO l4 (kk : Int) = true := by
            unfold hasO; rw [decide_eq_true_iff, Int.toNat_natCast, HL4.out, oAt_set _ _ _ (by rw [HN3.out]; exact hkl), if_pos rfl, List.length_set, HN3.out]
            exact ⟨by omega, by omega, HS0.out⟩
          have HFR0 := free_any_o k h4 0 cc4 (kk : Int) l4 w4 (HZ.out.below HB4.out) hk hok4 hbs4
          unfold FrTo at HFR0
          rw [Int.toNat_natCast, show l4.set kk (0, []) = l' by rw [HL4.out, HL3.out, HL2.out, List.set_set, List.set_set, List.set_set]; exact set_back hkl HFZ.out] at HFR0
          have HFR := Lib.hid HFR0
          have HH4 := Lib.hid hh4
          clear HFR0 hh4 hb4 hbs4 hok4 hx hy
          go_wp2_with fail
          refine HFR.out.mono ?_
          rintro e w5 ⟨hb5, (⟨hx, _⟩ | ⟨hx, h5, cc5, rfl, hbs5, hok5⟩)⟩
          · rw [HH4.out] at hx; cases hx
          have HB5 := Lib.hid (HB4.out.trans (hb5.mono HB4.out.size))
          have hc5 := conv_at hbs5
          have hc6 := conv_at ((HPG4.out.below hb5).more hb5.size)
          have HA := Lib.hid (HAW.out w5 HB5.out)
          clear hb5 hbs5 hok5 hx
          generalize str (pageO (clZ k) l') = sp at *
          go_wp2_with fail
          refine HA.out.mono ?_
          rintro e w6 ⟨rfl, hb6⟩
          have HF := Lib.hid (HB5.out.trans (hb6.mono HB5.out.size))
          clear hb6
          go_wp2_with fail
          go_ret
          exact ⟨rfl, HF.out⟩
        · have hcI : ¬ (nn : Int) < (mb : Int) := by omega
          have y5 : w2.cell? ⟨w.heap.size, 5, none⟩ = some (.slice Ab mb cb) := blk_cell hy 5
          have HBS2 := Lib.hid hbs2
          have HPG2 := HPG0
          have HPM2 := Lib.hid ((HPM0.out.below HB2.out).more HB2.out.size)
          have HPL : Hid (pb.length ≤ nn) := Lib.hid (by rw [HPM0.out.len]; omega)
          clear hy hb2 hbs2
          have ho2 : oAt l2 kk = (s0, zb nn) := by rw [HL2.out, oAt_set _ _ _ hkl, if_pos rfl]
          have hh2 : hasO l2 (kk : Int) = true := by
            unfold hasO; rw [decide_eq_true_iff, Int.toNat_natCast, ho2, HL2.out, List.length_set]
            exact ⟨by omega, by omega, HS0.out⟩
          have HWR0 := write_o k h 0 cc2 (kk : Int) 0 Ab mb cb pb l2 w2 (by omega) (HZ.out.below HB2.out) hk HOK2.out HBS2.out HPM2.out
          unfold WtTo at HWR0
          rw [Int.toNat_natCast, ho2] at HWR0
          have HWR := Lib.hid HWR0
          clear HWR0
          obtain ⟨l3, hl3⟩ : ∃ l3, l3 = l2.set kk (s0, splL (zb nn) (0 : Int).toNat pb) := ⟨_, rfl⟩
          have hwB : wrB l2 (kk : Int) 0 pb.length = true := by
            unfold wrB; rw [decide_eq_true_iff, Int.toNat_natCast, ho2]
            show 0 ≤ (0 : Int) ∧ (0 : Int) + _ ≤ (((zb nn).length : Nat) : Int)
            simp only [zb, List.length_replicate]; have := HPL.out; omega
          have HN2 : Hid (l2.length = l'.length) := Lib.hid (by rw [HL2.out, List.length_set])
          have HL3 := Lib.hid hl3
          have HH2 := Lib.hid hh2
          have HWB := Lib.hid hwB
          clear hl3 hh2 hwB ho2
          go_wp2_with fail
          refine HWR.out.mono ?_
          rintro e w3 ⟨hb3, (⟨hx, _⟩ | ⟨_, hx, _⟩ | ⟨hx, hy, h3, cc3, rfl, hbs3, hok3⟩)⟩
          · rw [HH2.out] at hx; cases hx
          · rw [HWB.out] at hx; cases hx
          rw [← HL3.out] at hbs3 hok3
          have HB3 := Lib.hid (HB2.out.trans (hb3.mono HB2.out.size))
          have HPG3 := Lib.hid ((HPG2.out.below hb3).more hb3.size)
          have ho3 : oAt l3 kk = (s0, splL (zb nn) (0 : Int).toNat pb) := by rw [HL3.out, oAt_set _ _ _ (by rw [HN2.out]; exact hkl), if_pos rfl]
          have HN3 : Hid (l3.length = l'.length) := Lib.hid (by rw [HL3.out, List.length_set, HN2.out])
          have hh3 : hasO l3 (kk : Int) = true := by
            unfold hasO; rw [decide_eq_true_iff, Int.toNat_natCast, ho3, HN3.out]
            exact ⟨by omega, by omega, HS0.out⟩
          have HRZ0 := res_o k h3 0 cc3 (kk : Int) 1 l3 w3 (HZ.out.below HB3.out) hk hok3 hbs3
          unfold RzTo at HRZ0
          rw [Int.toNat_natCast, ho3] at HRZ0
          have HRZ := Lib.hid HRZ0
          have hhB : holdsB (clZ k) 1 = true := by
            have := (cl_fits k hk).1
            unfold holdsB; rw [decide_eq_true_iff]; omega
          obtain ⟨l4, hl4⟩ : ∃ l4, l4 = l3.set kk (s0, padL (splL (zb nn) (0 : Int).toNat pb) (1 : Int).toNat) := ⟨_, rfl⟩
          have HL4 := Lib.hid hl4
          have HH3 := Lib.hid hh3
          have HHB := Lib.hid hhB
          clear HRZ0 hl4 hh3 hhB ho3 hb3 hbs3 hok3 hx hy
          go_wp2_with fail
          refine HRZ.out.mono ?_
          rintro e w4 ⟨hb4, (⟨hx, _⟩ | ⟨_, hx, _⟩ | ⟨hx, hy, h4, cc4, rfl, hbs4, hok4⟩)⟩
          · rw [HH3.out] at hx; cases hx
          · rw [HHB.out] at hx; cases hx
          rw [← HL4.out] at hbs4 hok4
          have HB4 := Lib.hid (HB3.out.trans (hb4.mono HB3.out.size))
          have HPG4 := Lib.hid ((HPG3.out.below hb4).more hb4.size)
          have hh4 : hasO l4 (kk : Int) = true := by
            unfold hasO; rw [decide_eq_true_iff, Int.toNat_natCast, HL4.out, oAt_set _ _ _ (by rw [HN3.out]; exact hkl), if_pos rfl, List.length_set, HN3.out]
            exact ⟨by omega, by omega, HS0.out⟩
          have HFR0 := free_any_o k h4 0 cc4 (kk : Int) l4 w4 (HZ.out.below HB4.out) hk hok4 hbs4
          unfold FrTo at HFR0
          rw [Int.toNat_natCast, show l4.set kk (0, []) = l' by rw [HL4.out, HL3.out, HL2.out, List.set_set, List.set_set, List.set_set]; exact set_back hkl HFZ.out] at HFR0
          have HFR := Lib.hid HFR0
          have HH4 := Lib.hid hh4
          clear HFR0 hh4 hb4 hbs4 hok4 hx hy
          go_wp2_with fail
          refine HFR.out.mono ?_
          rintro e w5 ⟨hb5, (⟨hx, _⟩ | ⟨hx, h5, cc5, rfl, hbs5, hok5⟩)⟩
          · rw [HH4.out] at hx; cases hx
          have HB5 := Lib.hid (HB4.out.trans (hb5.mono HB4.out.size))
          have hc5 := conv_at hbs5
          have hc6 := conv_at ((HPG4.out.below hb5).more hb5.size)
          have HA := Lib.hid (HAW.out w5 HB5.out)
          clear hb5 hbs5 hok5 hx
          generalize str (pageO (clZ k) l') = sp at *
          go_wp2_with fail
          refine HA.out.mono ?_
          rintro e w6 ⟨rfl, hb6⟩
          have HF := Lib.hid (HB5.out.trans (hb6.mono HB5.out.size))
          clear hb6
          go_wp2_with fail
          go_ret
          exact ⟨rfl, HF.out⟩
end
end Go.Proofs.YtflgcddgocojpaaDoor
