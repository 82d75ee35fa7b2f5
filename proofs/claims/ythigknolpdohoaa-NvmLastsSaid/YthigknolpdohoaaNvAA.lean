/-
  Chapter 8's device that is awake.
-/
import Derived.Test.YthigknolpdohoaaNvM
namespace Go.Proofs.Ythigknolpdohoaa
open Go.RowKit Go
set_option linter.unusedVariables false
set_option linter.unusedSimpArgs false
set_option maxRecDepth 100000
theorem b_of (l : List Nat) (h : ∀ v ∈ l, v < 256) (i : Nat) : l.getD i 0 < 256 := by
  by_cases hi : i < l.length
  · rw [List.getD_eq_getElem?_getD, List.getElem?_eq_getElem hi]; exact h _ (List.getElem_mem hi)
  · rw [List.getD_eq_getElem?_getD, List.getElem?_eq_none (by omega)]; simp
/-- a text that is stored, behind its conversion -/
theorem aw_put {w W : World} {g b k : Nat} {ws : List Wd} {z : List (Nat × Obj)} (h : AwS w W z g b false k ws) (hk : k < 16384) (x y : Nat) (hx : x < 256) (hy : y < 256) :
    Calls Try.prog 13 #[.pointer (some ⟨g, 0, none⟩), .int .i64 0, .slice (some ⟨W.heap.size, 0, none⟩) 2 2] (W.alloc (.cells #[.int .u8 (x : Int), .int .u8 (y : Int)] 5 (2, 3))) fun e w' => e = .returned (.int .i64 0) ∧ AwS w w' z g b false (k + 1) (putW Wd.st 0 [x, y] ws) :=
  h.store hk [x, y] _ ((Below.refl _ _).alloc (Nat.le_refl _) _) (aw_bs W [x, y] 2 (2, 3) rfl (by omega) (b_of _ (fun v hv => by simp at hv; omega)) _ rfl)
theorem bs_two {W : World} {q x y : Nat} (hx : x < 256) (hy : y < 256) (h : W.heap[q]? = some (.cells #[.int .u8 (x : Int), .int .u8 (y : Int)] 5 (0, 0))) : BS W W.heap.size (some ⟨q, 0, none⟩) 2 2 [x, y] := by
  refine ⟨rfl, Nat.le_refl _, by omega, b_of _ (fun v hv => by simp at hv; omega), fun _ => ⟨q, 0, rfl, blk_lt' h, fun i hi => ?_⟩⟩
  have hc := blk_cell h i
  rw [Nat.zero_add, hc]
  match i, hi with
  | 0, _ => rfl
  | 1, _ => rfl
  | i + 2, hi => omega
theorem aw_cut2 {W : World} {A : Option Addr} {c : Nat} {l : List Nat} (h : BS W W.heap.size A 128 c l) : (Instr.slice 28 (.slice A 128 c) none (some (.int .i64 2)) none).run Try.prog W = .ok (.slice A 2 c) W := by
  obtain ⟨h1, h2, h3, h4, h5⟩ := h
  obtain ⟨b, o, rfl, _⟩ := h5 (by omega)
  have h9 : (2 : Int) ≤ (c : Int) := by omega
  simp [go_sem, Instr.slice, h9]
theorem aw_conv2 {W : World} {A : Option Addr} {c : Nat} (h : BS W W.heap.size A 128 c (lastsL aw7)) : (convert 28 9 (.slice A 2 c)).run Try.prog W = .ok (.string { data := #[101, 102] }) W := by
  have h2 := (h.take (k := 2) (by omega)).conv _ 5 _ Try.underlying28 Try.underlying5 Try.underlying9
  rw [aw7_lasts] at h2
  exact h2
set_option maxHeartbeats 4000000 in
theorem awake8_any (w : World) : Calls Try.prog 11 #[] w fun e w' => e = .returned (.bool true) ∧ Below w.heap.size w w' := by
  have kc := fun (W : World) (a b : Value) => aw_conv W #[a, b] 2 rfl
  have HN := Lib.hid (aw_new w)
  go_enter Try.func11, Try.ntmps11
  go_wp2_with fail
  refine HN.out.mono ?_
  rintro e w1 ⟨g, b, rfl, ha⟩
  have HA1 := Lib.hid ha
  clear ha HN
  go_wp2_with fail
  refine (aw_put HA1.out (by omega) 97 98 (by omega) (by omega)).mono ?_
  rintro e w2 ⟨rfl, ha⟩
  have HA2 : Hid (AwS w w2 [] g b false 1 aw1) := Lib.hid ha
  clear ha HA1
  go_wp2_with fail
  refine (HA2.out.flush (by omega)).mono ?_
  rintro e w3 ⟨rfl, ha⟩
  have HA3 : Hid (AwS w w3 [] g b false 2 aw2) := Lib.hid ha
  clear ha HA2
  go_wp2_with fail
  refine (HA3.out.fence (by omega)).mono ?_
  rintro e w4 ⟨rfl, ha⟩
  have HA4 : Hid (AwS w w4 [] g b false 3 aw3) := Lib.hid ha
  clear ha HA3
  go_wp2_with fail
  refine (aw_put HA4.out (by omega) 99 100 (by omega) (by omega)).mono ?_
  rintro e w5 ⟨rfl, ha⟩
  have HA5 : Hid (AwS w w5 [] g b false 4 aw4) := Lib.hid ha
  clear ha HA4
  go_wp2_with fail
  refine (HA5.out.crash [] 0 0 none w5 (Below.refl _ _) (BS.nil _ _) (.inl rfl)).mono ?_
  rintro e w6 ⟨rfl, ha⟩
  have HA6 : Hid (AwS w w6 [] g b true 4 aw5) := Lib.hid ha
  clear ha HA5
  go_wp2_with fail
  refine HA6.out.on.mono ?_
  rintro e w7 ⟨rfl, ha⟩
  have HA7 := Lib.hid ha
  clear ha HA6
  go_wp2_with fail
  obtain ⟨x5, hx5, hn0, hn1⟩ := aw5_now
  refine (HA7.out.load hx5).mono ?_
  rw [hn0, hn1]
  rintro e w8 ⟨rfl, hb8, hc8⟩
  have HA8 := Lib.hid (HA7.out.mark hb8 (Nat.le_refl _) hc8)
  generalize w7.heap.size = q7 at *
  clear hb8 hc8 HA7 hx5 hn0 hn1
  go_wp2_with fail
  refine (aw_put HA8.out (by omega) 101 102 (by omega) (by omega)).mono ?_
  rintro e w9 ⟨rfl, ha⟩
  have HA9 : Hid (AwS w w9 _ g b false 5 aw6) := Lib.hid ha
  clear ha HA8
  go_wp2_with fail
  refine (HA9.out.crash [1] 1 1 (some ⟨w9.heap.size, 0, none⟩) _ ((Below.refl _ _).alloc (Nat.le_refl _) _) (aw_bs w9 [1] 1 (0, 0) rfl (by omega) (b_of _ (fun v hv => by simp at hv; omega)) _ rfl) (.inr rfl)).mono ?_
  rintro e w10 ⟨rfl, ha⟩
  have HA10 : Hid (AwS w w10 _ g b true 5 aw7) := Lib.hid ha
  clear ha HA9
  have hc1 : (convert 28 9 (.slice (some ⟨q7, 0, none⟩) 2 2)).run Try.prog w10 = .ok (.string (str [97, 98])) w10 := (bs_two (by omega) (by omega) (HA10.out.has (List.mem_cons_self ..))).conv _ 5 _ Try.underlying28 Try.underlying5 Try.underlying9
  rw [show str [97, 98] = { data := #[97, 98] } by kernel_rfl] at hc1
  go_wp2_with fail
  refine HA10.out.image.mono ?_
  rintro e w11 ⟨A1, c1, rfl, hs1, hb1⟩
  have HA11 := Lib.hid (HA10.out.next hb1)
  clear hs1 hb1 hc1 HA10
  go_wp2_with fail
  refine HA11.out.image.mono ?_
  rintro e w12 ⟨A2, c2, rfl, hs2, hb2⟩
  have HA12 := Lib.hid (HA11.out.next hb2)
  have hcut : (Instr.slice 28 (.slice A2 128 c2) none (some (.int .i64 2)) none).run Try.prog w12 = .ok (.slice A2 2 c2) w12 := aw_cut2 hs2
  have hc2 : (convert 28 9 (.slice A2 2 c2)).run Try.prog w12 = .ok (.string { data := #[101, 102] }) w12 := aw_conv2 hs2
  clear hs2 hb2 HA11
  go_wp2_with fail
  refine (HA12.out.acts (by omega) (by omega)).mono ?_
  rintro e w13 ⟨A3, c3, rfl, hb3⟩
  have HB := Lib.hid (HA12.out.next hb3).under
  clear hb3 HA12 hcut hc2
  go_wp2
  go_ret
  exact ⟨rfl, HB.out⟩
end Go.Proofs.Ythigknolpdohoaa
