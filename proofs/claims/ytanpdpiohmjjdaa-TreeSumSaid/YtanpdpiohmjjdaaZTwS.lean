/-
  Joined: TwS.
-/
import Derived.Test.YtanpdpiohmjjdaaTwZ5
namespace Go.Proofs.Ytanpdpiohmjjdaa
set_option maxRecDepth 100000
section
open Go.RowKit Go
set_option linter.unusedVariables false
set_option linter.unusedSimpArgs false
theorem wpList_bin {P : Program} {ops : Array Oper} {rest : List Oper} {o : Oper} {a : Act} {w : World} {Q : Exit → Act → World → Prop} (hgd : o.guard = none) (op : BinOp) (t t2 : TypeId) (x y : Operand) (ho : o.op = .binOp op t x y t2) (vx vy v : Value) (hx : a.eval x = vx) (hy : a.eval y = vy) (hg : (eqGuard op t x y vx vy).run P w = .ok () w) (hr : (binOp op t vx vy).run P w = .ok v w)
    (h : wpList P ops Q rest (a.put o.dst v) w) : wpList P ops Q (o :: rest) a w := wpList_plain hgd fun K hK => by
  have he := exec_bin op t t2 x y ho vx vy v hx hy hg hr
  unfold Oper.wp
  rw [he]
  exact hK _ _ h
set_option maxHeartbeats 2000000 in
set_option maxRecDepth 100000 in
theorem treeSum_any (k n c : Nat) (A : Option Addr) (l : List Nat) (w : World) (hk : k < 4294967296) (hs : BS w w.heap.size A n c l) (hA : A = none → c = 0) :
    Calls Try.prog 7 #[.int .u32 (k : Int), .slice A n c] w fun e w' => e = .returned (.bool true) ∧ Below w.heap.size w w' := by
  have hcv : IntKind.i64.wrap (k : Int) = (k : Int) := IntWalk.i64_in _ (by omega)
  have HAZ := Lib.hid hA
  by_cases h3 : n ≤ 300
  · have h3i : ¬ (300 : Int) < (n : Int) := by omega
    have HS := Lib.hid hs
    obtain ⟨da, hda⟩ : ∃ da, da = digA (txt 0 [putL 4 k, l]) := ⟨_, rfl⟩
    have HDA := Lib.hid hda
    have HEQ : Hid (∀ W, (binOp .eql 34 (.agg da) (.agg da)).run Try.prog W = .ok (.bool true) W) := Lib.hid (fun W => by rw [hda, bk_dig_eq]; simp)
    clear hda
    clear hs hA
    go_enter Try.func7, Try.ntmps7
    go_wp2_with fail
    refine (book12_any _).mono ?_
    rintro e w1 ⟨b, g, S, rfl, hbk, hS, hb1⟩
    have HBK := Lib.hid hbk
    have HSW := Lib.hid hS
    have HB1 := Lib.hid hb1
    have HS1 := Lib.hid ((HS.out.below hb1).more hb1.size)
    clear hbk hS hb1
    go_wp2_with fail
    refine (tleaf_any b g k n c A l S [] [] w1 HBK.out hk HS1.out (by omega) HAZ.out).mono ?_
    intro e w2 hsum
    have he := hsum.1
    subst he
    have HB2 : Hid (Below w.heap.size w w2) := Lib.hid (HB1.out.trans (Turns.below hsum.2.1 HB1.out.size HSW.out))
    have HS2 := Lib.hid ((HS.out.below HB2.out).more HB2.out.size)
    rw [← HDA.out]
    clear hsum
    go_wp2_with fail
    refine (rleaf_any k n c A l w2 hk HS2.out (by omega) HAZ.out).mono ?_
    rintro e w3 ⟨rfl, hb3⟩
    have HB3 : Hid (Below w.heap.size w w3) := Lib.hid (HB2.out.trans (hb3.mono HB2.out.size))
    rw [← HDA.out]
    clear hb3
    go_wp2_with (with_reducible refine wpList_bin rfl .eql 34 34 (.tmp 14) (.tmp 18) rfl (.agg da) (.agg da) (.bool true) rfl rfl (bk_guard _ _ _ _ _) (HEQ.out _) ?_)
    refine (awake12_any _).mono ?_
    rintro e w4 ⟨rfl, hb4⟩
    have HB4 : Hid (Below w.heap.size w w4) := Lib.hid (HB3.out.trans (hb4.mono HB3.out.size))
    clear hb4
    go_wp2
    go_ret
    exact ⟨rfl, HB4.out⟩
  · have h3i : (300 : Int) < (n : Int) := by omega
    have h3n : 300 < n := by omega
    obtain ⟨b0, o0, rfl, hb0, _⟩ := hs.2.2.2.2 (by omega)
    have hcn := hs.2.1
    have hc63 := hs.2.2.1
    have HS := Lib.hid (hs.take (k := 300) (by omega))
    obtain ⟨da, hda⟩ : ∃ da, da = digA (txt 0 [putL 4 k, l.take 300]) := ⟨_, rfl⟩
    have HDA := Lib.hid hda
    have HEQ : Hid (∀ W, (binOp .eql 34 (.agg da) (.agg da)).run Try.prog W = .ok (.bool true) W) := Lib.hid (fun W => by rw [hda, bk_dig_eq]; simp)
    clear hda
    clear hs hA
    go_enter Try.func7, Try.ntmps7
    go_wp2_with fail
    refine (book12_any _).mono ?_
    rintro e w1 ⟨b, g, S, rfl, hbk, hS, hb1⟩
    have HBK := Lib.hid hbk
    have HSW := Lib.hid hS
    have HB1 := Lib.hid hb1
    have HS1 := Lib.hid ((HS.out.below hb1).more hb1.size)
    clear hbk hS hb1
    go_wp2_with fail
    refine (tleaf_any b g k 300 c (some ⟨b0, o0, none⟩) (l.take 300) S [] [] w1 HBK.out hk HS1.out (by omega) HAZ.out).mono ?_
    intro e w2 hsum
    have he := hsum.1
    subst he
    have HB2 : Hid (Below w.heap.size w w2) := Lib.hid (HB1.out.trans (Turns.below hsum.2.1 HB1.out.size HSW.out))
    have HS2 := Lib.hid ((HS.out.below HB2.out).more HB2.out.size)
    rw [← HDA.out]
    clear hsum
    go_wp2_with fail
    refine (rleaf_any k 300 c (some ⟨b0, o0, none⟩) (l.take 300) w2 hk HS2.out (by omega) HAZ.out).mono ?_
    rintro e w3 ⟨rfl, hb3⟩
    have HB3 : Hid (Below w.heap.size w w3) := Lib.hid (HB2.out.trans (hb3.mono HB2.out.size))
    rw [← HDA.out]
    clear hb3
    go_wp2_with (with_reducible refine wpList_bin rfl .eql 34 34 (.tmp 14) (.tmp 18) rfl (.agg da) (.agg da) (.bool true) rfl rfl (bk_guard _ _ _ _ _) (HEQ.out _) ?_)
    refine (awake12_any _).mono ?_
    rintro e w4 ⟨rfl, hb4⟩
    have HB4 : Hid (Below w.heap.size w w4) := Lib.hid (HB3.out.trans (hb4.mono HB3.out.size))
    clear hb4
    go_wp2
    go_ret
    exact ⟨rfl, HB4.out⟩
end
end Go.Proofs.Ytanpdpiohmjjdaa
