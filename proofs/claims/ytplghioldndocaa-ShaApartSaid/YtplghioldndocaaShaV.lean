/-
  ShaApart's walk.
-/
import Derived.Test.YtplghioldndocaaShaU
import Derived.Test.YtplghioldndocaaStr
namespace Go.Proofs.Ytplghioldndocaa
open Go.RowKit Go
set_option linter.unusedVariables false
theorem conv3 {w : World} {B n c : Nat} {A : Option Addr} {l : List Nat} (h : BS w B A n c l) : (convert 22 9 (.slice A n c)).run Try.prog w = .ok (.string (str l)) w :=
  h.conv _ 5 _ Try.underlying22 Try.underlying5 Try.underlying9
theorem pad_tail (n : Nat) : Sha.pad n = (128 :: List.replicate ((119 - n % 64) % 64) 0) ++ (putL 8 (8 * n)).reverse := rfl
theorem putL_two {a b : Nat} (ha : a ≤ 300) (hb : b ≤ 300) (h : (putL 8 (8 * a)).reverse = (putL 8 (8 * b)).reverse) : a = b := by
  have h' : putL 8 (8 * a) = putL 8 (8 * b) := List.reverse_inj.mp h
  have h0 : (putL 8 (8 * a)).getD 0 0 = (putL 8 (8 * b)).getD 0 0 := by rw [h']
  have h1 : (putL 8 (8 * a)).getD 1 0 = (putL 8 (8 * b)).getD 1 0 := by rw [h']
  rw [putL_at, putL_at, if_pos (by omega), if_pos (by omega)] at h0 h1
  simp only [Nat.pow_zero, Nat.div_one, Nat.pow_one] at h0 h1
  omega
theorem apart {a b : List Nat} (ha : a.length ≤ 300) (hb : b.length ≤ 300) (h : a ++ Sha.pad a.length = b ++ Sha.pad b.length) : a = b := by
  rw [pad_tail, pad_tail, ← List.append_assoc, ← List.append_assoc] at h
  have h2 := (List.append_inj' h (by rw [List.length_reverse, List.length_reverse, putL_len, putL_len])).2
  have h3 := putL_two ha hb h2
  have h4 := (List.append_inj' h (by rw [List.length_reverse, List.length_reverse, putL_len, putL_len])).1
  exact (List.append_inj h4 h3).1
set_option maxHeartbeats 1000000 in
set_option maxRecDepth 100000 in
theorem shaApart_any (A A2 : Option Addr) (n c n2 c2 : Nat) (l l2 : List Nat) (w : World) (hs : BS w w.heap.size A n c l) (hs2 : BS w w.heap.size A2 n2 c2 l2) (hA : A = none → c = 0) (hA2 : A2 = none → c2 = 0) :
    Calls Try.prog 6 #[.slice A n c, .slice A2 n2 c2] w fun e w' => e = .returned (.bool true) ∧ Below w.heap.size w w' := by
  have HS := Lib.hid hs
  have HS2 := Lib.hid hs2
  have HA := Lib.hid hA
  have HA2 := Lib.hid hA2
  clear hs hs2 hA hA2
  go_enter Try.func6, Try.ntmps6
  go_wp2_with fail
  refine (short3_any A n c l w HS.out).mono ?_
  rintro e w' ⟨m, rfl, hm, hbs, hw⟩
  generalize l.take 300 = q at *
  have HBS := Lib.hid hbs
  subst hw
  go_wp2_with fail
  refine (short3_any A2 n2 c2 l2 w HS2.out).mono ?_
  rintro e w' ⟨m2, rfl, hm2, hbs2, hw⟩
  generalize l2.take 300 = q2 at *
  have HBS2 := Lib.hid hbs2
  subst hw
  have HL := Lib.hid hbs.len
  have HL2 := Lib.hid hbs2.len
  have HP := Lib.hid (fun W => pad_yes m (by omega) W)
  have HP2 := Lib.hid (fun W => pad_yes m2 (by omega) W)
  have hpl := pad_len m
  have hpl2 := pad_len m2
  have hlen1 : ([] : List Nat).length + m < 1000000000 := by simp; omega
  have hlen2 : ([] : List Nat).length + m2 < 1000000000 := by simp; omega
  have hlen3 : q.length + (Sha.pad m).length < 1000000000 := by rw [HL.out]; omega
  have hlen4 : q2.length + (Sha.pad m2).length < 1000000000 := by rw [HL2.out]; omega
  have HN1 := Lib.hid hlen1
  have HN2 := Lib.hid hlen2
  have HN3 := Lib.hid hlen3
  have HN4 := Lib.hid hlen4
  have hx0 := heap_alloc_new w (.cells #[] 5)
  have HO0 : Hid (Own (w.alloc (.cells #[] 5)) w.heap.size (.slice (some ⟨w.heap.size, 0, none⟩) 0 0) []) := Lib.hid (Own.blk (Nat.le_refl _) hx0 rfl (by omega) (by unfold maxLen; omega) rfl rfl)
  have hb0 : Below w.heap.size w (w.alloc (.cells #[] 5)) := (Below.refl _ _).alloc (Nat.le_refl _) _
  have HB0 := Lib.hid hb0
  have HBS0 := Lib.hid ((hbs.below hb0).more hb0.size)
  have hsz0 := hb0.size
  clear hx0 hb0 hbs hbs2 HS HS2 hlen1 hlen2 hlen3 hlen4
  go_wp2_with (at_builtin; refine wp_apps _ rfl (.tmp 11) (.tmp 12) rfl w.heap.size (.slice (some ⟨w.heap.size, 0, none⟩) 0 0) [] rfl HO0.out _ A m c q rfl HBS0.out HA.out HN1.out hsz0 ?_; intro v1 w1 hown1 hb1)
  generalize w.alloc (.cells #[] 5) = W0 at *
  have HB1 := Lib.hid (HB0.out.trans hb1)
  have HO1 : Hid (Own w1 w.heap.size v1 q) := Lib.hid hown1
  clear hown1 hb1 HO0 HB0 HBS0 hsz0
  refine (HP.out _).mono ?_
  rintro e w2 ⟨A3, c3, rfl, hb2, hbs3, _⟩
  have HB2 := Lib.hid (HB1.out.trans (hb2.mono HB1.out.size))
  have HO2 := Lib.hid (HO1.out.below hb2)
  have HBS3 := Lib.hid hbs3
  have HA3 : Hid (A3 = none → c3 = 0) := Lib.hid (fun h => by
    obtain ⟨b, o, e, _⟩ := hbs3.at_ (by unfold Sha.pad; simp)
    rw [h] at e; cases e)
  have hsz2 := HB2.out.size
  clear hb2 hbs3 HB1 HO1 HP
  have hby : ∀ i, (q ++ Sha.pad m).getD i 0 < 256 := byte_app HBS.out.byte (pad_byte m)
  have hby2 : ∀ i, (q2 ++ Sha.pad m2).getD i 0 < 256 := byte_app HBS2.out.byte (pad_byte m2)
  have HY := Lib.hid hby
  have HY2 := Lib.hid hby2
  obtain ⟨B, hB1, hB2⟩ : ∃ B, ((str (q ++ Sha.pad m)).toList == (str (q2 ++ Sha.pad m2)).toList) = B ∧ ((str q).toList == (str q2).toList) = B := by
    refine ⟨_, rfl, ?_⟩
    rw [str_toList hby hby2, str_toList HBS.out.byte HBS2.out.byte, decide_eq_decide]
    refine ⟨fun e => by rw [← HL.out, ← HL2.out, e], fun e => apart (by rw [HL.out]; exact hm) (by rw [HL2.out]; exact hm2) (by rw [HL.out, HL2.out]; exact e)⟩
  clear hby hby2
  cases B
  all_goals
    go_wp2_with (first
      | (at_builtin; refine wp_apps _ rfl (.tmp 13) (.tmp 16) rfl w.heap.size v1 q rfl HO2.out _ A3 _ c3 (Sha.pad m) rfl HBS3.out HA3.out HN3.out hsz2 ?_; intro v3 w3 hown3 hb3
         have HB3 := Lib.hid (HB2.out.trans hb3)
         have HO3 : Hid (Own w3 w.heap.size v3 (q ++ Sha.pad m)) := Lib.hid hown3
         have hsz3 := HB3.out.size
         have HO4 : Hid (Own (w3.alloc (.cells #[] 5)) w3.heap.size (.slice (some ⟨w3.heap.size, 0, none⟩) 0 0) []) := Lib.hid (Own.blk (Nat.le_refl _) (heap_alloc_new w3 (.cells #[] 5)) rfl (by omega) (by unfold maxLen; omega) rfl rfl)
         have hb4 : Below w3.heap.size w3 (w3.alloc (.cells #[] 5)) := (Below.refl _ _).alloc (Nat.le_refl _) _
         have HB4 := Lib.hid hb4
         have HBS4 := Lib.hid ((HBS2.out.below (HB3.out.trans (hb4.mono hsz3))).more (HB3.out.trans (hb4.mono hsz3)).size)
         have hsz4 := hb4.size
         clear hown3 hb3 hb4)
      | (at_builtin; refine wp_apps _ rfl (.tmp 18) (.tmp 19) rfl w3.heap.size (.slice (some ⟨w3.heap.size, 0, none⟩) 0 0) [] rfl HO4.out _ A2 m2 c2 q2 rfl HBS4.out HA2.out HN2.out hsz4 ?_; intro v5 w5 hown5 hb5
         have HB5 := Lib.hid (HB4.out.trans hb5)
         have HO5 : Hid (Own w5 w3.heap.size v5 q2) := Lib.hid hown5
         have hsz5 := HB5.out.size
         clear hown5 hb5 HB4 HBS4 HO4 hsz4)
      | (go_at_call 24; refine (HP2.out _).mono ?_; rintro e w6 ⟨A6, c6, rfl, hb6, hbs6, _⟩
         have HB6 := Lib.hid (HB5.out.trans (hb6.mono hsz5))
         have HO6 := Lib.hid (HO5.out.below hb6)
         have HBS6 := Lib.hid hbs6
         have HA6 : Hid (A6 = none → c6 = 0) := Lib.hid (fun h => by
           obtain ⟨b, o, e, _⟩ := hbs6.at_ (by unfold Sha.pad; simp)
           rw [h] at e; cases e)
         have hsz6 := HB6.out.size
         clear hb6 hbs6 HB5 HO5 hsz5 HP2)
      | (at_builtin; refine wp_apps _ rfl (.tmp 20) (.tmp 23) rfl w3.heap.size v5 q2 rfl HO6.out _ A6 _ c6 (Sha.pad m2) rfl HBS6.out HA6.out HN4.out hsz6 ?_; intro v7 w7 hown7 hb7
         have HB7 := Lib.hid (HB6.out.trans hb7)
         have hB7 := HB3.out.trans (HB7.out.mono hsz3)
         have HB8 := Lib.hid hB7
         obtain ⟨A3', c3', rfl, hx⟩ := (HO3.out.below HB7.out).bs HY.out
         obtain ⟨A7, c7, rfl, hy⟩ := Own.bs hown7 HY2.out
         have hc1 := conv3 hx
         have hc2 := conv3 hy
         rw [List.length_append] at hc1 hc2
         have hc3 := conv3 (HBS.out.below hB7)
         have hc4 := conv3 (HBS2.out.below hB7)
         clear hown7 hb7 HB6 HO6 HBS6 HA6 hsz6 hx hy hB7)
      | (go_at_call 17; refine (awake_any _).mono ?_; rintro e w9 ⟨rfl, hb9⟩
         have HB9 := Lib.hid (HB8.out.trans (hb9.mono HB8.out.size))
         clear hb9))
    go_ret
    exact ⟨rfl, HB9.out⟩
end Go.Proofs.Ytplghioldndocaa
