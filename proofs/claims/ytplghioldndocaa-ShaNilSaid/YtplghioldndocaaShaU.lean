/-
  ShaSum's walk.
-/
import Derived.Test.YtplghioldndocaaShaT
import Derived.Test.YtplghioldndocaaEq
namespace Go.Proofs.Ytplghioldndocaa
open Go.RowKit Go
set_option linter.unusedVariables false
theorem digA_row (m : List Nat) : digA m = rowV (bF (Sha.sum m)) 32 := rfl
theorem sum_len (m : List Nat) : (Sha.sum m).length = 32 := dig_len _
theorem equal_dig (l m : List Nat) (w : World) : (Op.equalIn 10000 25 (.agg (digA l)) (.agg (digA m))).run Try.prog w = .ok (decide (Sha.sum l = Sha.sum m)) w :=
  equal_row _ 32 Try.underlying25 _ _ (sum_len l) (sum_len m) w
theorem equal_same (l : List Nat) (w : World) : (Op.equalIn 10000 25 (.agg (digA l)) (.agg (digA l))).run Try.prog w = .ok true w := by
  rw [equal_dig, decide_eq_true rfl]
theorem take_byte' {l : List Nat} (h : ∀ i, l.getD i 0 < 256) (k : Nat) : ∀ i, (l.take k).getD i 0 < 256 := byte_take h k
/-- one part in a block of its own, behind the table -/
theorem one_part {W : World} {A : Option Addr} {m c : Nat} {l : List Nat} (hbs : BS W W.heap.size A m c l) (ho : ∀ ad, A = some ad → ad.block < W.heap.size) :
    ∀ X, (W.alloc (.cells #[.slice A m c] 22)).heap.size ≤ X → Parts (W.alloc (.cells #[.slice A m c] 22)) X (.slice (some ⟨W.heap.size, 0, none⟩) 1 1) [l] := by
  intro X hX
  have es : (W.alloc (.cells #[.slice A m c] 22)).heap.size = W.heap.size + 1 := by simp
  rw [es] at hX
  refine parts_one (heap_alloc_new W _) (by omega) ((hbs.below ((Below.refl _ _).alloc (Nat.le_refl _) _)).more (by rw [es]; omega)) fun ad e => ?_
  have := ho ad e
  omega
set_option maxHeartbeats 1000000 in
set_option maxRecDepth 100000 in
theorem shaSum_any (A : Option Addr) (n c : Nat) (l : List Nat) (w : World) (hs : BS w w.heap.size A n c l) (ho : ∀ ad, A = some ad → ad.block < w.heap.size) (hA : A = none → c = 0) :
    Calls Try.prog 3 #[.slice A n c] w fun e w' => e = .returned (.bool true) ∧ Below w.heap.size w w' := by
  have HS := Lib.hid hs
  have HO := Lib.hid ho
  have HA := Lib.hid hA
  clear hs ho hA
  go_enter Try.func3, Try.ntmps3
  go_wp2_with fail
  refine (short3_any A n c l w HS.out).mono ?_
  rintro e w' ⟨m, rfl, hm, hbs, rfl⟩
  have HBS := Lib.hid hbs
  have hby := take_byte' HS.out.byte 300
  have hlen := hbs.len
  generalize l.take 300 = q at *
  have HBY := Lib.hid hby
  have HLEN := Lib.hid hlen
  clear hbs hby hlen HS
  go_wp2_with fail
  refine (make_any _).mono ?_
  rintro e w1 ⟨rfl, hb1, ht1⟩
  have HB1 := Lib.hid hb1
  have HT1 := Lib.hid ht1
  have hlt1 : w.heap.size < w1.heap.size := Row.lt ht1
  have HBS1 := Lib.hid ((HBS.out.below hb1).more hb1.size)
  have ho1 : ∀ ad, A = some ad → ad.block < w1.heap.size := fun ad e => Nat.lt_of_lt_of_le (HO.out ad e) hb1.size
  have HP := Lib.hid (one_part HBS1.out ho1)
  have hb2 : Below w1.heap.size w1 (w1.alloc (.cells #[.slice A m c] 22)) := (Below.refl _ _).alloc (Nat.le_refl _) _
  have HB2 := Lib.hid hb2
  have HT2 := Lib.hid (Row.below ht1 hb2 hlt1)
  clear hb1 ht1 hb2 ho1
  go_wp2_with fail
  refine (tsum_any w.heap.size [q] _ _ HT2.out HP.out (fun i => by simpa using HBY.out i) (by have := HLEN.out; simp; omega) (by simp)).mono ?_
  rintro e w3 ⟨rfl, hb3⟩
  have hfl : ([q] : List (List Nat)).flatten = q := by simp
  rw [hfl]
  have hB3 : Below w1.heap.size w1 w3 := HB2.out.trans (hb3.mono HB2.out.size)
  have HB3 := Lib.hid hB3
  have HBS3 := Lib.hid ((HBS1.out.below hB3).more hB3.size)
  have hq := fun W => equal_same q W
  clear hb3 hB3 hfl
  have HR := Lib.hid (fun W h => refSum_any A m c q W h HA.out (by omega))
  generalize digA q = d at *
  go_wp2_with fail
  refine (HR.out _ HBS3.out).mono ?_
  rintro e w4 ⟨rfl, hb4⟩
  have HB4 := Lib.hid (HB1.out.trans ((HB3.out.trans (hb4.mono HB3.out.size)).mono (Nat.le_of_lt hlt1)))
  clear hb4
  go_wp2_with fail
  refine (awake_any _).mono ?_
  rintro e w5 ⟨rfl, hb5⟩
  have HB5 := Lib.hid (HB4.out.trans (hb5.mono HB4.out.size))
  clear hb5
  go_wp2
  go_ret
  exact ⟨rfl, HB5.out⟩
end Go.Proofs.Ytplghioldndocaa
