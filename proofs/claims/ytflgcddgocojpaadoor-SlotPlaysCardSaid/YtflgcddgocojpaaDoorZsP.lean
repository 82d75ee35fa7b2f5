/-
  Joined: SlZ, SlAa, SlAb.
-/
import Derived.Test.YtflgcddgocojpaaDoorSlV0
import Derived.Test.YtflgcddgocojpaaDoorSlV1
import Derived.Test.YtflgcddgocojpaaDoorSlV2
import Derived.Test.YtflgcddgocojpaaDoorSlV3
import Derived.Test.YtflgcddgocojpaaDoorSlV4
import Derived.Test.YtflgcddgocojpaaDoorSlV5
import Derived.Test.YtflgcddgocojpaaDoorSlV6
import Derived.Test.YtflgcddgocojpaaDoorSlVo
import Derived.Test.YtflgcddgocojpaaDoorSlX
namespace Go.Proofs.YtflgcddgocojpaaDoor
set_option maxRecDepth 100000
section
open Go.RowKit Go
set_option linter.unusedVariables false

theorem step18_any (k b q c cl : Nat) (A : Option Addr) (l : List Ob) (o : O18) (Ab : Option Addr) (cb : Nat) (w : World) (hS : SZ w) (hk : k < 8) (hp : PSt w (clZ k) (clS k) b q c A cl l) (ho : Ok18 w o Ab cb) :
    Calls Tryd.prog 8 #[.slice (some ⟨b, q, none⟩) 256 c, .slice A (clS k) cl, .int .i64 (k : Int), .agg #[.int .i64 o.kind, .int .i64 o.k, .int .i64 o.n, .int .i64 o.pos, .int .u64 (o.s : Int), .slice Ab o.b.length cb]] w (StTo w (clZ k) (clS k)) := by
  by_cases h0 : o.kind = 0
  · exact step_0 k b q c cl _ cb _ o.k o.n o.pos h0 o.s A Ab l o.b w ho.ser ho.top hS hk hp ho.bs ho.nil_
  by_cases h1 : o.kind = 1
  · exact step_1 k b q c cl _ cb _ o.k o.n o.pos h1 o.s A Ab l o.b w ho.ser ho.top hS hk hp ho.bs ho.nil_
  by_cases h2 : o.kind = 2
  · exact step_2 k b q c cl _ cb _ o.k o.n o.pos h2 o.s A Ab l o.b w ho.ser ho.top hS hk hp ho.bs ho.nil_
  by_cases h3 : o.kind = 3
  · exact step_3 k b q c cl _ cb _ o.k o.n o.pos h3 o.s A Ab l o.b w ho.ser ho.top hS hk hp ho.bs ho.nil_
  by_cases h4 : o.kind = 4
  · exact step_4 k b q c cl _ cb _ o.k o.n o.pos h4 o.s A Ab l o.b w ho.ser ho.top hS hk hp ho.bs ho.nil_
  by_cases h5 : o.kind = 5
  · exact step_5 k b q c cl _ cb _ o.k o.n o.pos h5 o.s A Ab l o.b w ho.ser ho.top hS hk hp ho.bs ho.nil_
  by_cases h6 : o.kind = 6
  · exact step_6 k b q c cl _ cb _ o.k o.n o.pos h6 o.s A Ab l o.b w ho.ser ho.top hS hk hp ho.bs ho.nil_
  · exact step_o k b q c cl _ cb _ o.k o.n o.pos ⟨h0, h1, h2, h3, h4, h5, h6⟩ o.s A Ab l o.b w ho.ser ho.top hS hk hp ho.bs ho.nil_
end
section
open Go.RowKit Go
set_option linter.unusedVariables false
set_option linter.unusedSimpArgs false
set_option maxHeartbeats 4000000
set_option maxRecDepth 100000

theorem and7s (k : Int) : ∃ j : Nat, j < 8 ∧ bits .and .i64 k 7 = (j : Int) := by
  have h1 : (BitVec.ofInt 64 k).toNat &&& 7 ≤ 7 := Nat.and_le_right
  refine ⟨(BitVec.ofInt 64 k).toNat &&& 7, by omega, ?_⟩
  show IntKind.i64.wrap ((BitVec.ofInt 64 k &&& BitVec.ofInt 64 7).toNat : Int) = _
  rw [BitVec.toNat_and]
  have h2 : (BitVec.ofInt 64 7).toNat = 7 := by decide
  rw [h2]
  exact IntWalk.i64_in _ ⟨by omega, by omega⟩
theorem make256 : ∀ w : World, (Instr.makeSlice 23 (.int .i64 256) (.int .i64 256)).run Tryd.prog w = .ok (.slice (some ⟨w.heap.size, 0, none⟩) 256 256) (w.alloc (.cells (zeros 256) 5)) := make_bytes 256 (by omega)
def Stt (k g : Nat) (w : World) (e : Ending) (w' : World) : Prop := ∃ A cc l, e = .returned (.tuple #[.slice A (clS k) cc, .bool true]) ∧ PSt w' (clZ k) (clS k) g 0 256 A cc l ∧ Below w.heap.size w w'
theorem start18 (k : Nat) (w : World) (hS : SZ w) (hk : k < 8) :
    Calls Tryd.prog 7 #[.slice (some ⟨w.heap.size, 0, none⟩) 256 256, .int .i64 (k : Int)] (w.alloc (.cells (zeros 256) 5)) (Stt k w.heap.size (w.alloc (.cells (zeros 256) 5))) := by
  obtain ⟨z1, z2, z3, z4, z5, -⟩ := cl_fits k hk
  have hb0 : Below w.heap.size w (w.alloc (.cells (zeros 256) 5)) := (Below.refl _ _).alloc (Nat.le_refl _) _
  have hbs := zero_bs (w := w) 256 (by omega)
  have e0 : zb 256 = pageO (clZ k) (List.replicate (clS k) (0, [])) := (zb_page (clZ k) (clS k) (by omega)).symm
  have hm : mayP (clZ k) (clS k) (zb 256) = true := by
    rw [e0]; exact mayP_page (by omega) z2 z3 (okL_rep _ _)
  refine (objects18_any k _ 0 256 _ _ (hS.below hb0) hk hbs).mono ?_
  rintro e w' (⟨h, _⟩ | ⟨_, A, c, rfl, hv, hb⟩)
  · rw [hm] at h; cases h
  · obtain ⟨h1, h2⟩ := mayP_objs (by omega) z3 hbs.len hbs.byte hm
    exact ⟨A, c, _, rfl, ⟨h1, hv, by rw [← h2]; exact (hbs.below hb).more hb.size⟩, hb⟩
def LpS (w0 : World) (k n : Nat) (pv lv ov iv : Value) (wr : World) : Prop := ∃ j b q c A cl l, iv = .int .i64 ((j : Nat) : Int) ∧ .slice (some ⟨b, q, none⟩) 256 c = pv ∧ .slice A (clS k) cl = lv ∧ ov = .bool true ∧ PSt wr (clZ k) (clS k) b q c A cl l ∧ j ≤ n ∧ Below w0.heap.size w0 wr
end
section
open Go.RowKit Go
set_option linter.unusedVariables false
set_option linter.unusedSimpArgs false
set_option maxHeartbeats 4000000
set_option maxRecDepth 100000

theorem slotPlays_any (c0 : Int) (A0 : Option Addr) (n cc : Nat) (l : List O18) (w : World) (hv : O18V w A0 n l) (hn9 : n ≤ 9223372036854775807) (hS : SZ w) :
    Calls Tryd.prog 3 #[.int .i64 c0, .slice A0 n cc] w fun e w' => e = .returned (.bool true) ∧ Below w.heap.size w w' := by
  obtain ⟨k, hk, hand⟩ := and7s c0
  have HM := Lib.hid make256
  have HB0 : Hid (Below w.heap.size w (w.alloc (.cells (zeros 256) 5))) := Lib.hid ((Below.refl _ _).alloc (Nat.le_refl _) _)
  have HST := Lib.hid (start18 k w hS hk)
  have HZ := Lib.hid hS
  have HV := Lib.hid hv
  have HSP := Lib.hid (fun wr (h : Below w.heap.size w wr) b q c A cl l o Ab cb (hp : PSt wr (clZ k) (clS k) b q c A cl l) (ho : Ok18 wr o Ab cb) => step18_any k b q c cl A l o Ab cb wr (hS.below h) hk hp ho)
  have HAW := Lib.hid (fun wr (h : Below w.heap.size w wr) => awake18_any wr (hS.below h))
  clear hS hv
  go_enter Tryd.func3, Tryd.ntmps3
  have hM := HM.out
  go_wp2_with fail
  refine HST.out.mono ?_
  rintro e w1 ⟨A1, cc1, l1, rfl, hp1, hb1⟩
  have HS1 : Hid (LpS w k n (.slice (some ⟨w.heap.size, 0, none⟩) 256 256) (.slice A1 (clS k) cc1) (.bool true) (.int .i64 0) w1) := Lib.hid ⟨0, _, _, _, _, _, _, rfl, rfl, rfl, rfl, hp1, by omega, HB0.out.trans (hb1.mono HB0.out.size)⟩
  clear hp1 hb1 hM HST
  go_wp2_with fail
  go_loopw [5, 6, 7, 21] (fun pv lv ov iv wr => LpS w k n pv lv ov iv wr) (fun _ _ _ iv _ => (n - intOf iv).toNat)
  case atStart => exact HS1.out
  case round =>
    clear HS1
    obtain ⟨j, b, q, c, A, cl, l', rfl, rfl, rfl, rfl, hp, hj, hb⟩ := hrel
    have HB := Lib.hid hb
    have HP := Lib.hid hp
    clear hb hp
    by_cases hlt : j < n
    · obtain ⟨ba, oa, A1, c1, rfl, hba, q0, q1, q2, q3, q4, q5, hok⟩ := HV.out.at_ hlt
      have hlt1 : ba < wr.heap.size := Nat.lt_of_lt_of_le hba HB.out.size
      have p0 := (HB.out.cell (p := ⟨ba, oa + j * 6, none⟩) hba).trans q0
      have p1 := (HB.out.cell (p := ⟨ba, oa + j * 6 + 1, none⟩) hba).trans q1
      have p2 := (HB.out.cell (p := ⟨ba, oa + j * 6 + 2, none⟩) hba).trans q2
      have p3 := (HB.out.cell (p := ⟨ba, oa + j * 6 + 3, none⟩) hba).trans q3
      have p4 := (HB.out.cell (p := ⟨ba, oa + j * 6 + 4, none⟩) hba).trans q4
      have p5 := (HB.out.cell (p := ⟨ba, oa + j * 6 + 5, none⟩) hba).trans q5
      have HOK0 := Lib.hid (hok.below HB.out)
      have HBN := Lib.hid (fun (wx : World) (o : Obj) => (Below.refl wx.heap.size wx).alloc (Nat.le_refl _) o)
      clear q0 q1 q2 q3 q4 q5 hba hok
      generalize o18At l j = oo at *
      obtain ⟨kd, K, N, at_, s, bb⟩ := oo
      dsimp only at *
      have HS5 := Lib.hid (HSP.out (wr.alloc (.cells #[.int .i64 kd, .int .i64 K, .int .i64 N, .int .i64 at_, .int .u64 (s : Int), .slice A1 bb.length c1] 29)) (HB.out.trans ((HBN.out _ _).mono HB.out.size)) b q c A cl l' ⟨kd, K, N, at_, s, bb⟩ A1 c1 (HP.out.below (HBN.out _ _)) (HOK0.out.below (HBN.out _ _)))
      dsimp only at HS5
      have HB5 := Lib.hid (HB.out.trans ((HBN.out wr (.cells #[.int .i64 kd, .int .i64 K, .int .i64 N, .int .i64 at_, .int .u64 (s : Int), .slice A1 bb.length c1] 29)).mono HB.out.size))
      have HP5 := Lib.hid (HP.out.below (HBN.out wr (.cells #[.int .i64 kd, .int .i64 K, .int .i64 N, .int .i64 at_, .int .u64 (s : Int), .slice A1 bb.length c1] 29)))
      generalize bb.length = nb at *
      unfold StTo at HS5
      have HNXT : Hid (∀ w' b' q' c' A' cl' l2, PSt w' (clZ k) (clS k) b' q' c' A' cl' l2 → Below w.heap.size w w' → LpS w k n (.slice (some ⟨b', q', none⟩) 256 c') (.slice A' (clS k) cl') (.bool true) (.int .i64 ((j : Int) + 1)) w') := Lib.hid (fun w' b' q' c' A' cl' l2 h1 h2 => ⟨j + 1, b', q', c', A', cl', l2, rfl, rfl, rfl, rfl, h1, by omega, h2⟩)
      clear HBN
      by_cases h40 : j < 40
      · have hI : (j : Int) < 40 := by omega
        go_wp2_with fail
        refine HS5.out.mono ?_
        rintro e w2 ⟨hb2, b2, q2, c2, A2, cl2, l2, rfl, hp2⟩
        have HB2 := Lib.hid (HB5.out.trans (hb2.mono HB5.out.size))
        have HP2 := Lib.hid hp2
        clear hb2 hp2 p0 p1 p2 p3 p4 p5
        have HSA := Lib.hid (same18_any k b2 q2 c2 (clS k) cl2 A2 l2 w2 (HZ.out.below HB2.out) hk HP2.out.ok rfl HP2.out.ob HP2.out.pg)
        go_wp2_with fail
        refine HSA.out.mono ?_
        rintro e w3 ⟨rfl, hb3⟩
        have HF := Lib.hid (HNXT.out w3 _ _ _ _ _ _ (HP2.out.below hb3) (HB2.out.trans (hb3.mono HB2.out.size)))
        clear hb3
        go_wp2_with fail
        go_roundw
        case rel => exact HF.out
        case measure => simp [intOf]; omega
      · have hI : ¬ (j : Int) < 40 := by omega
        have HA := Lib.hid (HAW.out _ HB5.out)
        go_wp2_with fail
        refine HA.out.mono ?_
        rintro e w3 ⟨rfl, hb3⟩
        have HF := Lib.hid (HB5.out.trans (hb3.mono HB5.out.size))
        clear hb3
        go_wp2_with fail
        go_ret
        exact ⟨rfl, HF.out⟩
    · obtain rfl : j = n := by omega
      have HA := Lib.hid (HAW.out _ HB.out)
      go_wp2_with fail
      refine HA.out.mono ?_
      rintro e w3 ⟨rfl, hb3⟩
      have HF := Lib.hid (HB.out.trans (hb3.mono HB.out.size))
      clear hb3
      go_wp2_with fail
      go_ret
      exact ⟨rfl, HF.out⟩
end
end Go.Proofs.YtflgcddgocojpaaDoor
