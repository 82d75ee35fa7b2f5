/-
  Joined: SlZ, SlAa, SlAc.
-/
import Derived.Test.YtflgcddgocojpaaDoorSlV0
import Derived.Test.YtflgcddgocojpaaDoorSlV1
import Derived.Test.YtflgcddgocojpaaDoorSlV2
import Derived.Test.YtflgcddgocojpaaDoorSlV3
import Derived.Test.YtflgcddgocojpaaDoorSlV4
import Derived.Test.YtflgcddgocojpaaDoorSlV5
import Derived.Test.YtflgcddgocojpaaDoorSlV6
import Derived.Test.YtflgcddgocojpaaDoorSlVo
import Derived.Test.YtflgcddgocojpaaDoorSlX
namespace Go.Proofs.YtflgcddgocojpaaDoor
set_option maxRecDepth 100000
section
open Go.RowKit Go
set_option linter.unusedVariables false

theorem step18_any (k b q c cl : Nat) (A : Option Addr) (l : List Ob) (o : O18) (Ab : Option Addr) (cb : Nat) (w : World) (hS : SZ w) (hk : k < 8) (hp : PSt w (clZ k) (clS k) b q c A cl l) (ho : Ok18 w o Ab cb) :
    Calls Tryd.prog 8 #[.slice (some ⟨b, q, none⟩) 256 c, .slice A (clS k) cl, .int .i64 (k : Int), .agg #[.int .i64 o.kind, .int .i64 o.k, .int .i64 o.n, .int .i64 o.pos, .int .u64 (o.s : Int), .slice Ab o.b.length cb]] w (StTo w (clZ k) (clS k)) := by
  by_cases h0 : o.kind = 0
  · exact step_0 k b q c cl _ cb _ o.k o.n o.pos h0 o.s A Ab l o.b w ho.ser ho.top hS hk hp ho.bs ho.nil_
  by_cases h1 : o.kind = 1
  · exact step_1 k b q c cl _ cb _ o.k o.n o.pos h1 o.s A Ab l o.b w ho.ser ho.top hS hk hp ho.bs ho.nil_
  by_cases h2 : o.kind = 2
  · exact step_2 k b q c cl _ cb _ o.k o.n o.pos h2 o.s A Ab l o.b w ho.ser ho.top hS hk hp ho.bs ho.nil_
  by_cases h3 : o.kind = 3
  · exact step_3 k b q c cl _ cb _ o.k o.n o.pos h3 o.s A Ab l o.b w ho.ser ho.top hS hk hp ho.bs ho.nil_
  by_cases h4 : o.kind = 4
  · exact step_4 k b q c cl _ cb _ o.k o.n o.pos h4 o.s A Ab l o.b w ho.ser ho.top hS hk hp ho.bs ho.nil_
  by_cases h5 : o.kind = 5
  · exact step_5 k b q c cl _ cb _ o.k o.n o.pos h5 o.s A Ab l o.b w ho.ser ho.top hS hk hp ho.bs ho.nil_
  by_cases h6 : o.kind = 6
  · exact step_6 k b q c cl _ cb _ o.k o.n o.pos h6 o.s A Ab l o.b w ho.ser ho.top hS hk hp ho.bs ho.nil_
  · exact step_o k b q c cl _ cb _ o.k o.n o.pos ⟨h0, h1, h2, h3, h4, h5, h6⟩ o.s A Ab l o.b w ho.ser ho.top hS hk hp ho.bs ho.nil_
end
section
open Go.RowKit Go
set_option linter.unusedVariables false
set_option linter.unusedSimpArgs false
set_option maxHeartbeats 4000000
set_option maxRecDepth 100000

theorem and7s (k : Int) : ∃ j : Nat, j < 8 ∧ bits .and .i64 k 7 = (j : Int) := by
  have h1 : (BitVec.ofInt 64 k).toNat &&& 7 ≤ 7 := Nat.and_le_right
  refine ⟨(BitVec.ofInt 64 k).toNat &&& 7, by omega, ?_⟩
  show IntKind.i64.wrap ((BitVec.ofInt 64 k &&& BitVec.ofInt 64 7).toNat : Int) = _
  rw [BitVec.toNat_and]
  have h2 : (BitVec.ofInt 64 7).toNat = 7 := by decide
  rw [h2]
  exact IntWalk.i64_in _ ⟨by omega, by omega⟩
theorem make256 : ∀ w : World, (Instr.makeSlice 23 (.int .i64 256) (.int .i64 256)).run Tryd.prog w = .ok (.slice (some ⟨w.heap.size, 0, none⟩) 256 256) (w.alloc (.cells (zeros 256) 5)) := make_bytes 256 (by omega)
def Stt (k g : Nat) (w : World) (e : Ending) (w' : World) : Prop := ∃ A cc l, e = .returned (.tuple #[.slice A (clS k) cc, .bool true]) ∧ PSt w' (clZ k) (clS k) g 0 256 A cc l ∧ Below w.heap.size w w'
theorem start18 (k : Nat) (w : World) (hS : SZ w) (hk : k < 8) :
    Calls Tryd.prog 7 #[.slice (some ⟨w.heap.size, 0, none⟩) 256 256, .int .i64 (k : Int)] (w.alloc (.cells (zeros 256) 5)) (Stt k w.heap.size (w.alloc (.cells (zeros 256) 5))) := by
  obtain ⟨z1, z2, z3, z4, z5, -⟩ := cl_fits k hk
  have hb0 : Below w.heap.size w (w.alloc (.cells (zeros 256) 5)) := (Below.refl _ _).alloc (Nat.le_refl _) _
  have hbs := zero_bs (w := w) 256 (by omega)
  have e0 : zb 256 = pageO (clZ k) (List.replicate (clS k) (0, [])) := (zb_page (clZ k) (clS k) (by omega)).symm
  have hm : mayP (clZ k) (clS k) (zb 256) = true := by
    rw [e0]; exact mayP_page (by omega) z2 z3 (okL_rep _ _)
  refine (objects18_any k _ 0 256 _ _ (hS.below hb0) hk hbs).mono ?_
  rintro e w' (⟨h, _⟩ | ⟨_, A, c, rfl, hv, hb⟩)
  · rw [hm] at h; cases h
  · obtain ⟨h1, h2⟩ := mayP_objs (by omega) z3 hbs.len hbs.byte hm
    exact ⟨A, c, _, rfl, ⟨h1, hv, by rw [← h2]; exact (hbs.below hb).more hb.size⟩, hb⟩
def LpS (w0 : World) (k n : Nat) (pv lv ov iv : Value) (wr : World) : Prop := ∃ j b q c A cl l, iv = .int .i64 ((j : Nat) : Int) ∧ .slice (some ⟨b, q, none⟩) 256 c = pv ∧ .slice A (clS k) cl = lv ∧ ov = .bool true ∧ PSt wr (clZ k) (clS k) b q c A cl l ∧ j ≤ n ∧ Below w0.heap.size w0 wr
end
section
open Go.RowKit Go
set_option linter.unusedVariables false
set_option linter.unusedSimpArgs false
set_option maxHeartbeats 4000000
set_option maxRecDepth 100000

theorem freeO_set {l : List Ob} {kk : Nat} (hk : kk < l.length) (j : Nat) : freeO (l.set kk (0, [])) j = if j = kk then true else freeO l j := by
  unfold freeO
  rw [oAt_set _ _ _ hk]
  split <;> rfl
theorem first_set {l : List Ob} {S kk : Nat} {i : Int} (h : FirstAt (freeO l) S i) (hk : kk < S) (hl : l.length = S) (hn : freeO l kk = false) :
    ∃ at_ : Int, ((i < 0 ∧ at_ = (kk : Int)) ∨ (¬ i < 0 ∧ (kk : Int) < i ∧ at_ = (kk : Int)) ∨ (¬ i < 0 ∧ ¬ (kk : Int) < i ∧ at_ = i)) ∧ FirstAt (freeO (l.set kk (0, []))) S at_ := by
  have hfk : freeO (l.set kk (0, [])) kk = true := by rw [freeO_set (by omega), if_pos rfl]
  rcases h with ⟨rfl, h⟩ | ⟨m, rfl, hm, h1, h2⟩
  · exact ⟨(kk : Int), .inl ⟨by omega, rfl⟩, .inr ⟨kk, rfl, hk, hfk, fun j hj => by rw [freeO_set (by omega), if_neg (by omega)]; exact h j (by omega)⟩⟩
  · by_cases hkm : kk < m
    · exact ⟨(kk : Int), .inr (.inl ⟨by omega, by omega, rfl⟩), .inr ⟨kk, rfl, hk, hfk, fun j hj => by rw [freeO_set (by omega), if_neg (by omega)]; exact h2 j (by omega)⟩⟩
    · have hne : m ≠ kk := fun e => by rw [e, hn] at h1; cases h1
      exact ⟨(m : Int), .inr (.inr ⟨by omega, by omega, rfl⟩), .inr ⟨m, rfl, hm, by rw [freeO_set (by omega), if_neg hne]; exact h1, fun j hj => by rw [freeO_set (by omega), if_neg (by omega)]; exact h2 j hj⟩⟩
theorem slotFree_any (c0 : Int) (A0 : Option Addr) (n cc : Nat) (K0 N0 : Int) (l : List O18) (w : World) (hv : O18V w A0 n l) (hn9 : n ≤ 9223372036854775807) (hS : SZ w) :
    Calls Tryd.prog 6 #[.int .i64 c0, .slice A0 n cc, .int .i64 K0, .int .i64 N0] w fun e w' => e = .returned (.bool true) ∧ Below w.heap.size w w' := by
  obtain ⟨k, hk, hand⟩ := and7s c0
  have HM := Lib.hid make256
  have HB0 : Hid (Below w.heap.size w (w.alloc (.cells (zeros 256) 5))) := Lib.hid ((Below.refl _ _).alloc (Nat.le_refl _) _)
  have HST := Lib.hid (start18 k w hS hk)
  have HZ := Lib.hid hS
  have HV := Lib.hid hv
  have HSP := Lib.hid (fun wr (h : Below w.heap.size w wr) b q c A cl l o Ab cb (hp : PSt wr (clZ k) (clS k) b q c A cl l) (ho : Ok18 wr o Ab cb) => step18_any k b q c cl A l o Ab cb wr (hS.below h) hk hp ho)
  have HAW := Lib.hid (fun wr (h : Below w.heap.size w wr) => awake18_any wr (hS.below h))
  clear hS hv
  go_enter Tryd.func6, Tryd.ntmps6
  have hM := HM.out
  go_wp2_with fail
  refine HST.out.mono ?_
  rintro e w1 ⟨A1, cc1, l1, rfl, hp1, hb1⟩
  have HS1 : Hid (LpS w k n (.slice (some ⟨w.heap.size, 0, none⟩) 256 256) (.slice A1 (clS k) cc1) (.bool true) (.int .i64 0) w1) := Lib.hid ⟨0, _, _, _, _, _, _, rfl, rfl, rfl, rfl, hp1, by omega, HB0.out.trans (hb1.mono HB0.out.size)⟩
  clear hp1 hb1 hM HST
  go_wp2_with fail
  go_loopw [9, 10, 11, 31] (fun pv lv ov iv wr => LpS w k n pv lv ov iv wr) (fun _ _ _ iv _ => (n - intOf iv).toNat)
  case atStart => exact HS1.out
  case round =>
    clear HS1
    obtain ⟨j, b, q, c, A, cl, l', rfl, rfl, rfl, rfl, hp, hj, hb⟩ := hrel
    have HB := Lib.hid hb
    have HP := Lib.hid hp
    clear hb hp
    by_cases hlt : j < n
    · obtain ⟨ba, oa, A1, c1, rfl, hba, q0, q1, q2, q3, q4, q5, hok⟩ := HV.out.at_ hlt
      have hlt1 : ba < wr.heap.size := Nat.lt_of_lt_of_le hba HB.out.size
      have p0 := (HB.out.cell (p := ⟨ba, oa + j * 6, none⟩) hba).trans q0
      have p1 := (HB.out.cell (p := ⟨ba, oa + j * 6 + 1, none⟩) hba).trans q1
      have p2 := (HB.out.cell (p := ⟨ba, oa + j * 6 + 2, none⟩) hba).trans q2
      have p3 := (HB.out.cell (p := ⟨ba, oa + j * 6 + 3, none⟩) hba).trans q3
      have p4 := (HB.out.cell (p := ⟨ba, oa + j * 6 + 4, none⟩) hba).trans q4
      have p5 := (HB.out.cell (p := ⟨ba, oa + j * 6 + 5, none⟩) hba).trans q5
      have HOK0 := Lib.hid (hok.below HB.out)
      have HBN := Lib.hid (fun (wx : World) (o : Obj) => (Below.refl wx.heap.size wx).alloc (Nat.le_refl _) o)
      clear q0 q1 q2 q3 q4 q5 hba hok
      generalize o18At l j = oo at *
      obtain ⟨kd, K, N, at_, s, bb⟩ := oo
      dsimp only at *
      have HS5 := Lib.hid (HSP.out (wr.alloc (.cells #[.int .i64 kd, .int .i64 K, .int .i64 N, .int .i64 at_, .int .u64 (s : Int), .slice A1 bb.length c1] 29)) (HB.out.trans ((HBN.out _ _).mono HB.out.size)) b q c A cl l' ⟨kd, K, N, at_, s, bb⟩ A1 c1 (HP.out.below (HBN.out _ _)) (HOK0.out.below (HBN.out _ _)))
      dsimp only at HS5
      have HB5 := Lib.hid (HB.out.trans ((HBN.out wr (.cells #[.int .i64 kd, .int .i64 K, .int .i64 N, .int .i64 at_, .int .u64 (s : Int), .slice A1 bb.length c1] 29)).mono HB.out.size))
      have HP5 := Lib.hid (HP.out.below (HBN.out wr (.cells #[.int .i64 kd, .int .i64 K, .int .i64 N, .int .i64 at_, .int .u64 (s : Int), .slice A1 bb.length c1] 29)))
      generalize bb.length = nb at *
      unfold StTo at HS5
      have HNXT : Hid (∀ w' b' q' c' A' cl' l2, PSt w' (clZ k) (clS k) b' q' c' A' cl' l2 → Below w.heap.size w w' → LpS w k n (.slice (some ⟨b', q', none⟩) 256 c') (.slice A' (clS k) cl') (.bool true) (.int .i64 ((j : Int) + 1)) w') := Lib.hid (fun w' b' q' c' A' cl' l2 h1 h2 => ⟨j + 1, b', q', c', A', cl', l2, rfl, rfl, rfl, rfl, h1, by omega, h2⟩)
      clear HBN
      by_cases h20 : j < 20
      · have hI : (j : Int) < 20 := by omega
        go_wp2_with fail
        refine HS5.out.mono ?_
        rintro e w2 ⟨hb2, b2, q2, c2, A2, cl2, l2, rfl, hp2⟩
        have HB2 := Lib.hid (HB5.out.trans (hb2.mono HB5.out.size))
        have HP2 := Lib.hid hp2
        clear hb2 hp2 p0 p1 p2 p3 p4 p5
        have HF := Lib.hid (HNXT.out w2 _ _ _ _ _ _ HP2.out HB2.out)
        go_wp2_with fail
        go_roundw
        case rel => exact HF.out
        case measure => simp [intOf]; omega
      · have hI : ¬ (j : Int) < 20 := by omega
        have HF := Lib.hid (HNXT.out _ _ _ _ _ _ _ HP5.out HB5.out)
        go_wp2_with fail
        go_roundw
        case rel => exact HF.out
        case measure => simp [intOf]; omega
    · obtain rfl : j = n := by omega
      have HTH := Lib.hid (there_any A (clS k) cl K0 l' wr HP.out.ob (by have := (cl_fits k hk).2.2.2.2.1; omega))
      have hlen := HP.out.ok.len
      cases hh : hasO l' K0
      · rw [hh] at HTH
        go_wp2_with fail
        refine HTH.out.mono ?_
        rintro e w2 ⟨rfl, rfl⟩
        have HA := Lib.hid (HAW.out _ HB.out)
        go_wp2_with fail
        refine HA.out.mono ?_
        rintro e w3 ⟨rfl, hb3⟩
        have HF := Lib.hid ((HB.out).trans (hb3.mono (HB.out).size))
        clear hb3
        go_wp2_with fail
        go_ret
        exact ⟨rfl, HF.out⟩
      · rw [hh] at HTH
        have hat := hasO_at hh
        obtain ⟨kk, rfl⟩ : ∃ kk : Nat, K0 = (kk : Int) := ⟨K0.toNat, by omega⟩
        have hkk : kk < clS k := by omega
        have hnf : freeO l' kk = false := by
          unfold freeO; rw [decide_eq_false_iff_not]
          have := hat.2.2; rwa [Int.toNat_natCast] at this
        have HFR := Lib.hid (free_any_o k b q c (kk : Int) l' wr (HZ.out.below HB.out) hk HP.out.ok HP.out.pg)
        unfold FrTo at HFR
        rw [Int.toNat_natCast] at HFR
        clear hat
        go_wp2_with fail
        refine HTH.out.mono ?_
        rintro e w2 ⟨rfl, rfl⟩
        go_wp2_with fail
        refine HFR.out.mono ?_
        rintro e w3 ⟨hb3, (⟨hx, _⟩ | ⟨hx, h, cc3, rfl, hbs3, hok3⟩)⟩
        · rw [hh] at hx; cases hx
        · have HB3 := Lib.hid (HB.out.trans (hb3.mono HB.out.size))
          have HFI := Lib.hid (first18_any A (clS k) cl l' w3 (HP.out.ob.below hb3) (by have := (cl_fits k hk).2.2.2.2.1; omega))
          have HQ := Lib.hid hbs3
          have HOK := Lib.hid hok3
          obtain ⟨m, hm8, hand2⟩ := and7s N0
          have hw1 : IntKind.i64.wrap (1 + (m : Int)) = ((1 + m : Nat) : Int) := by rw [IntWalk.i64_in _ (by omega)]; omega
          clear hb3 hbs3 hok3 hx HTH HFR hh
          go_wp2_with fail
          refine HFI.out.mono ?_
          rintro e w4 ⟨⟨i, rfl, hi⟩, hb4⟩
          obtain ⟨at_, hsel, hfst⟩ : ∃ at_ : Int, ((i < 0 ∧ at_ = (kk : Int)) ∨ (¬ i < 0 ∧ (kk : Int) < i ∧ at_ = (kk : Int)) ∨ (¬ i < 0 ∧ ¬ (kk : Int) < i ∧ at_ = i)) ∧ FirstAt (freeO (l'.set kk (0, []))) (clS k) at_ := first_set hi hkk hlen hnf
          have HB4 := Lib.hid (HB3.out.trans (hb4.mono HB3.out.size))
          have HTK : Hid (Calls Tryd.prog 12 #[.slice (some ⟨h, 0, none⟩) 256 cc3, .int .i64 (k : Int), .int .u64 77, .int .i64 ((1 + m : Nat) : Int)] w4 (TkTo w4 (clZ k) (clS k) (l'.set kk (0, [])) 77 ((1 + m : Nat) : Int))) := Lib.hid (take_o k h 0 cc3 77 ((1 + m : Nat) : Int) _ w4 (by omega) (HZ.out.below HB4.out) hk HOK.out ((HQ.out.below hb4).more hb4.size))
          have hfit : fitB (clZ k) 77 ((1 + m : Nat) : Int) = true := by
            have := (cl_fits k hk).1
            unfold fitB servesB holdsB; simp only [Bool.and_eq_true, decide_eq_true_iff]; omega
          have hfree : freeO (l'.set kk (0, [])) kk = true := by unfold freeO; rw [oAt_set _ _ _ (by omega), if_pos rfl]; rfl
          have HFS := Lib.hid hfst
          have HKK := Lib.hid hkk
          have HFF := Lib.hid (And.intro hfit hfree)
          unfold TkTo at HTK
          clear hi hb4 hfst hfit hfree hnf hlen HFI
          rcases hsel with ⟨i1, rfl⟩ | ⟨i1, i2, rfl⟩ | ⟨i1, i2, rfl⟩
          · go_wp2_with fail
            refine HTK.out.mono ?_
            rintro e w5 ⟨hb5, (⟨hx, _⟩ | ⟨_, hx, _⟩ | ⟨hx, k5, hk5, hf5, hg5, h5, cc5, rfl, -, -⟩)⟩
            · rw [HFF.out.1] at hx; cases hx
            · have := hx kk HKK.out; rw [HFF.out.2] at this; cases this
            · have hwh : (kk : Int) = (k5 : Int) := first_eq HFS.out hk5 hf5 hg5
              have HB5 := Lib.hid (HB4.out.trans (hb5.mono HB4.out.size))
              have HA := Lib.hid (HAW.out w5 HB5.out)
              clear hx hk5 hf5 hg5 hb5
              go_wp2_with fail
              refine HA.out.mono ?_
              rintro e w6 ⟨rfl, hb6⟩
              have HF := Lib.hid (HB5.out.trans (hb6.mono HB5.out.size))
              clear hb6
              go_wp2_with fail
              go_ret
              exact ⟨rfl, HF.out⟩
          · go_wp2_with fail
            refine HTK.out.mono ?_
            rintro e w5 ⟨hb5, (⟨hx, _⟩ | ⟨_, hx, _⟩ | ⟨hx, k5, hk5, hf5, hg5, h5, cc5, rfl, -, -⟩)⟩
            · rw [HFF.out.1] at hx; cases hx
            · have := hx kk HKK.out; rw [HFF.out.2] at this; cases this
            · have hwh : (kk : Int) = (k5 : Int) := first_eq HFS.out hk5 hf5 hg5
              have HB5 := Lib.hid (HB4.out.trans (hb5.mono HB4.out.size))
              have HA := Lib.hid (HAW.out w5 HB5.out)
              clear hx hk5 hf5 hg5 hb5
              go_wp2_with fail
              refine HA.out.mono ?_
              rintro e w6 ⟨rfl, hb6⟩
              have HF := Lib.hid (HB5.out.trans (hb6.mono HB5.out.size))
              clear hb6
              go_wp2_with fail
              go_ret
              exact ⟨rfl, HF.out⟩
          · go_wp2_with fail
            refine HTK.out.mono ?_
            rintro e w5 ⟨hb5, (⟨hx, _⟩ | ⟨_, hx, _⟩ | ⟨hx, k5, hk5, hf5, hg5, h5, cc5, rfl, -, -⟩)⟩
            · rw [HFF.out.1] at hx; cases hx
            · have := hx kk HKK.out; rw [HFF.out.2] at this; cases this
            · have hwh : at_ = (k5 : Int) := first_eq HFS.out hk5 hf5 hg5
              have HB5 := Lib.hid (HB4.out.trans (hb5.mono HB4.out.size))
              have HA := Lib.hid (HAW.out w5 HB5.out)
              clear hx hk5 hf5 hg5 hb5
              go_wp2_with fail
              refine HA.out.mono ?_
              rintro e w6 ⟨rfl, hb6⟩
              have HF := Lib.hid (HB5.out.trans (hb6.mono HB5.out.size))
              clear hb6
              go_wp2_with fail
              go_ret
              exact ⟨rfl, HF.out⟩
end
end Go.Proofs.YtflgcddgocojpaaDoor
