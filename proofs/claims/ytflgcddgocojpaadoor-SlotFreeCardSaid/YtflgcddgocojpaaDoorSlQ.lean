/-
  Layer 18, the document's: Objects.
-/
import Derived.Test.YtflgcddgocojpaaDoorSlP
import Derived.Test.YtflgcddgocojpaaDoorHeldG
import Derived.Test.YtflgcddgocojpaaDoorStr
namespace Go.Proofs.YtflgcddgocojpaaDoor
open Go.RowKit Go
set_option linter.unusedVariables false
set_option linter.unusedSimpArgs false
set_option maxHeartbeats 1000000

def ObTo (w : World) (z S : Nat) (t : List Nat) (e : Ending) (w' : World) : Prop :=
  (mayP z S t = false ∧ e = .returned (.tuple #[.slice none 0 0, .bool false]) ∧ Below w.heap.size w w') ∨
  (mayP z S t = true ∧ ∃ A c, e = .returned (.tuple #[.slice A S c, .bool true]) ∧ ObV w' A S (objs z S t) ∧ Below w.heap.size w w')
def OqR (w : World) (z S : Nat) (t : List Nat) (lv iv : Value) (wr : World) : Prop := ∃ (j : Nat) (v : Value), iv = .int .i64 (j : Int) ∧ v = lv ∧ j ≤ S ∧ (∀ i, i < j → ¬ docBad z (winL t z i)) ∧ ObO wr w.heap.size w.heap.size v ((objs z S t).take j) ∧ Below w.heap.size w wr
theorem objs_take {z S j : Nat} {t : List Nat} (hj : j < S) : (objs z S t).take (j + 1) = (objs z S t).take j ++ [decO (winL t z j)] := by
  have hl := objs_len z S t
  rw [List.take_add_one, List.getElem?_eq_getElem (by omega), Option.toList_some]
  congr 2
  have := objs_at (z := z) (t := t) hj
  rw [List.getD_eq_getElem?_getD, List.getElem?_eq_getElem (by omega)] at this
  exact this
theorem bs_doc {w : World} {B b q c z S i : Nat} {t : List Nat} (hs : BS w B (some ⟨b, q, none⟩) 256 c t) (h : S * z ≤ 256) (hz : 16 ≤ z) (hi : i < S) : BS w B (some ⟨b, q + i * z, none⟩) z (c - i * z) (winL t z i) := by
  have hle := slot_le h hi
  have hc := hs.cap
  have h1 := (hs.cut (k := i * z) (by omega)).take (k := z) (by omega)
  have e : cutA (some ⟨b, q, none⟩) c (i * z) = some ⟨b, q + i * z, none⟩ := by unfold cutA; rw [if_neg (by omega)]; simp [Go.WideShapes.add_plain]
  rw [e] at h1
  exact h1
theorem bs_obj {w : World} {B b q c z n : Nat} {u : List Nat} (hs : BS w B (some ⟨b, q, none⟩) z c u) (hz : 16 ≤ z) (hn : n ≤ z - 8) : BS w B (some ⟨b, q + 8, none⟩) n (c - 8) ((u.drop 8).take n) := by
  have hc := hs.cap
  have h1 := (hs.cut (k := 8) (by omega)).take (k := n) (by omega)
  have e : cutA (some ⟨b, q, none⟩) c 8 = some ⟨b, q + 8, none⟩ := by unfold cutA; rw [if_neg (by omega)]; simp [Go.WideShapes.add_plain]
  rw [e] at h1
  exact h1
theorem objs_long {z S : Nat} {t : List Nat} (hb : ∀ k, k < S → ¬ docBad z (winL t z k)) (h128 : z ≤ 128) (i : Nat) : (oAt (objs z S t) i).2.length ≤ 900 := by
  by_cases h : i < S
  · rw [show oAt (objs z S t) i = decO (winL t z i) from objs_at h]
    have := hb i h
    unfold docBad at this
    simp only [decO, List.length_take]
    omega
  · rw [show oAt (objs z S t) i = (0, []) by unfold oAt; rw [List.getD_eq_getElem?_getD, List.getElem?_eq_none (by rw [objs_len]; omega)]; rfl]
    simp
theorem objs_ser {z S : Nat} {t : List Nat} (hb : ∀ i, t.getD i 0 < 256) (i : Nat) : (oAt (objs z S t) i).1 < 2 ^ 64 := by
  by_cases h : i < S
  · rw [show oAt (objs z S t) i = decO (winL t z i) from objs_at h]
    refine Nat.lt_of_lt_of_le (num_lt (l := ((winL t z i).drop 2).take 6) (take_byte (fun i => by rw [drop_at]; exact winL_byte hb _ _ _) 6)) ?_
    rw [show (2 : Nat) ^ 64 = 256 ^ 8 by decide]
    exact Nat.pow_le_pow_right (by decide) (by simp; omega)
  · rw [show oAt (objs z S t) i = (0, []) by unfold oAt; rw [List.getD_eq_getElem?_getD, List.getElem?_eq_none (by rw [objs_len]; omega)]; rfl]
    simp
theorem Own.set18 {w : World} {B : Nat} {v : Value} {l : List Nat} (h : Own w B v l) (p : Addr) (hp : p.block < B) (x : Value) : Own (w.setCell p x) B v l :=
  h.keep fun g hg => Below.heap_setCell _ _ _ _ (by have := (h.lt hg).1; omega)
theorem own_zero {w : World} {B n c : Nat} {A : Option Addr} {l : List Nat} (h : Own w B (.slice A n c) l) : A = none → c = 0 := by
  rintro rfl
  obtain ⟨_, k⟩ := h
  rcases k with ⟨e, _⟩ | ⟨g, cap, cur, e, _⟩
  · injection e
  · injection e with e1 _ _
    cases e1
theorem objects18_any (k b q c : Nat) (t : List Nat) (w : World) (hS : SZ w) (hk : k < 8) (hs : BS w w.heap.size (some ⟨b, q, none⟩) 256 c t) :
    Calls Tryd.prog 7 #[.slice (some ⟨b, q, none⟩) 256 c, .int .i64 (k : Int)] w (ObTo w (clZ k) (clS k) t) := by
  obtain ⟨z1, z2, z3, z4, z5, z6⟩ := cl_fits k hk
  have hcap := hs.cap
  have HSZ := Lib.hid (fun W (h : Below w.heap.size w W) => rsize_n k hk W (hS.below h))
  have HSL := Lib.hid (fun W (h : Below w.heap.size w W) => rslots_n k hk W (hS.below h))
  have HPG := Lib.hid (fun W (h : Below w.heap.size w W) A cc (hv : ObV W A (clS k) (objs (clZ k) (clS k) t)) (hb : ∀ j, j < clS k → ¬ docBad (clZ k) (winL t (clZ k) j)) => page18_any k A (clS k) cc _ W (hS.below h) hk hv z3 (objs_long hb z2) (objs_ser hs.byte))
  have HST : Hid (OqR w (clZ k) (clS k) t (.slice none 0 0) (.int .i64 0) w) := Lib.hid ⟨0, _, rfl, rfl, by omega, fun i hi => by omega, ObO.nil _ _ _, Below.refl _ _⟩
  have HBS := Lib.hid hs
  have HDOC := Lib.hid (mayP_doc (z := clZ k) (S := clS k) (t := t) (by omega) z2 z3 hs.len hs.byte)
  have hwz : IntKind.i64.wrap (((szN k : Nat) : Int) + 8) = ((clZ k : Nat) : Int) := by rw [IntWalk.i64_in _ (by omega)]; omega
  have HTOB : Hid (∀ w', Below w.heap.size w w' → mayP (clZ k) (clS k) t = false → ObTo w (clZ k) (clS k) t (.returned (.tuple #[.slice none 0 0, .bool false])) w') := Lib.hid (fun w' hb hm => .inl ⟨hm, rfl, hb⟩)
  have HTOG : Hid (∀ A cc w', mayP (clZ k) (clS k) t = true → ObV w' A (clS k) (objs (clZ k) (clS k) t) → Below w.heap.size w w' → ObTo w (clZ k) (clS k) t (.returned (.tuple #[.slice A (clS k) cc, .bool true])) w') := Lib.hid (fun A cc w' hm hv hb => .inr ⟨hm, A, cc, rfl, hv, hb⟩)
  have hzz : ¬ ((szN k : Nat) : Int) = 0 := by omega
  clear hs hS z6
  generalize szN k = zz at *
  generalize clZ k = z at *
  generalize clS k = S at *
  go_enter Tryd.func7, Tryd.ntmps7
  go_wp2_with fail
  refine (HSZ.out _ (Below.refl _ _)).mono ?_
  rintro e w1 ⟨rfl, rfl⟩
  go_wp2_with fail
  refine (HSZ.out _ (Below.refl _ _)).mono ?_
  rintro e w1 ⟨rfl, rfl⟩
  go_wp2_with fail
  go_loopw [7, 8] (fun lv iv wr => OqR w z S t lv iv wr) (fun _ iv _ => (S - intOf iv).toNat)
  case atStart => exact HST.out
  case round =>
    clear HST
    obtain ⟨j, v, rfl, rfl, hj, hno, ho, hb⟩ := hrel
    have HB := Lib.hid hb
    have HO := Lib.hid ho
    have HNO := Lib.hid hno
    clear hb ho hno
    go_wp2_with fail
    refine (HSL.out _ HB.out).mono ?_
    rintro e w1 ⟨rfl, rfl⟩
    by_cases hlt : j < S
    · have hle := slot_le z3 hlt
      have hbw := bs_doc (HBS.out.below HB.out) z3 z1 hlt
      have HG2 := Lib.hid (fun W (h : Below wr.heap.size wr W) => refGet_any _ 2 _ _ W w.heap.size ((hbw.below (h.mono HB.out.size)).take (k := 2) (by omega)))
      have hbc : BS wr w.heap.size (some ⟨b, q + j * z + 2, none⟩) 6 (c - j * z - 2) (((winL t z j).drop 2).take 6) := by
        have h1 := (hbw.cut (k := 2) (by omega)).take (k := 6) (by omega)
        have e : cutA (some ⟨b, q + j * z, none⟩) (c - j * z) 2 = some ⟨b, q + j * z + 2, none⟩ := by unfold cutA; rw [if_neg (by omega)]; simp [Go.WideShapes.add_plain]
        rw [e] at h1
        exact h1
      have HG6 := Lib.hid (fun W (h : Below wr.heap.size wr W) => refGet_any _ 6 _ _ W w.heap.size (hbc.below (h.mono HB.out.size)))
      have e2 : ((winL t z j).take 2).take 8 = (winL t z j).take 2 := List.take_of_length_le (by simp; omega)
      have e6 : (((winL t z j).drop 2).take 6).take 8 = ((winL t z j).drop 2).take 6 := List.take_of_length_le (by simp; omega)
      rw [e2] at HG2
      rw [e6] at HG6
      have hn16 : num ((winL t z j).take 2) < 65536 := by
        have := num_lt (l := (winL t z j).take 2) (take_byte hbw.byte 2)
        refine Nat.lt_of_lt_of_le this ?_
        rw [show 65536 = 256 ^ 2 by decide]
        exact Nat.pow_le_pow_right (by decide) (by simp; omega)
      have HDEC : Hid (decO (winL t z j) = (num (((winL t z j).drop 2).take 6), ((winL t z j).drop 8).take (num ((winL t z j).take 2)))) := Lib.hid rfl
      have HDB : Hid (docBad z (winL t z j) ↔ (z - 8 < num ((winL t z j).take 2) ∨ ¬ (num ((winL t z j).take 2) = 0 ↔ num (((winL t z j).drop 2).take 6) = 0))) := Lib.hid Iff.rfl
      have HOB := Lib.hid (fun (h : num ((winL t z j).take 2) ≤ z - 8) => bs_obj hbw z1 h)
      have HDL : Hid (num ((winL t z j).take 2) ≤ z - 8 → (((winL t z j).drop 8).take (num ((winL t z j).take 2))).length = num ((winL t z j).take 2)) := Lib.hid (fun h => (HOB.out h).len)
      have HBAD : Hid (docBad z (winL t z j) → mayP z S t = false) := Lib.hid (fun h => by
        cases hm : mayP z S t
        · rfl
        · exact absurd h ((HDOC.out.1 hm).1 j hlt))
      have HNX : Hid (¬ docBad z (winL t z j) → ∀ v' w', ObO w' w.heap.size w.heap.size v' ((objs z S t).take j ++ [decO (winL t z j)]) → Below w.heap.size w w' → OqR w z S t v' (.int .i64 ((j : Int) + 1)) w') := Lib.hid (fun hd v' w' h1 h2 => ⟨j + 1, v', rfl, rfl, by omega, fun i hi => by
        by_cases e : i = j
        · subst e; exact hd
        · exact HNO.out i (by omega), by rw [objs_take hlt]; exact h1, h2⟩)
      have HLN : Hid (((objs z S t).take j).length < 1000) := Lib.hid (by rw [List.length_take]; omega)
      have hmul : IntKind.i64.wrap ((j : Int) * (z : Int)) = ((j * z : Nat) : Int) := by rw [IntWalk.i64_in _ (by rw [← Int.natCast_mul]; omega)]; simp
      clear hbw hbc e2 e6 HNO
      rw [HDEC.out] at HNX
      clear HDEC
      generalize docBad z (winL t z j) = bad at *
      generalize ((winL t z j).drop 8).take (num ((winL t z j).take 2)) = dd at *
      generalize num ((winL t z j).take 2) = nn at *
      generalize num (((winL t z j).drop 2).take 6) = sv at *
      generalize (objs z S t).take j = pre at *
      generalize j * z = m at *
      have hcm : ¬ c = m := by omega
      have hcm2 : ¬ c - m = 2 := by omega
      have hcm8 : ¬ c - m = 8 := by omega
      have hwn : IntKind.i64.wrap (nn : Int) = (nn : Int) := IntWalk.i64_in _ (by omega)
      have hsub : m + z - m = z := by omega
      go_wp2_with fail
      refine (HG2.out _ (Below.refl _ _)).mono ?_
      rintro e w1 ⟨rfl, rfl⟩
      go_wp2_with fail
      refine (HG6.out _ (Below.refl _ _)).mono ?_
      rintro e w1 ⟨rfl, rfl⟩
      have HB5 : Hid (Below w.heap.size w (wr.alloc (.cells #[.int .u64 (sv : Int), .slice none 0 0] 55))) := Lib.hid (HB.out.alloc HB.out.size _)
      have HAL : Hid (Below wr.heap.size wr (wr.alloc (.cells #[.int .u64 (sv : Int), .slice none 0 0] 55))) := Lib.hid ((Below.refl _ _).alloc (Nat.le_refl _) _)
      have HBX : Hid ((wr.alloc (.cells #[.int .u64 (sv : Int), .slice none 0 0] 55)).heap[wr.heap.size]? = some (.cells #[.int .u64 (sv : Int), .slice none 0 0] 55 (0, 0))) := Lib.hid (heap_alloc_new _ _)
      have HXX : Hid (wr.heap.size < (wr.alloc (.cells #[.int .u64 (sv : Int), .slice none 0 0] 55)).heap.size) := Lib.hid (by simp)
      by_cases hgt : nn ≤ z - 8
      · have hgtI : ¬ (z : Int) - 8 < (nn : Int) := by omega
        rcases Nat.eq_zero_or_pos nn with rfl | hn0
        · rcases Nat.eq_zero_or_pos sv with rfl | hs0
          ·
            have hnb : ¬ bad := fun h => by
              have := HDB.out.1 h; omega
            have HNX1 := Lib.hid (HNX.out hnb)
            have HBY := Lib.hid (HOB.out hgt).byte
            have HSB := Lib.hid (((HOB.out hgt).below (HAL.out.mono HB.out.size)).more HB5.out.size)
            have HDL1 := Lib.hid (HDL.out hgt)
            obtain ⟨r, hr1, hr2⟩ : ∃ r : Nat, r ≤ 8 + 0 ∧ 8 + 0 ≤ r := ⟨8 + 0, by omega, by omega⟩
            have hw8 : IntKind.i64.wrap 8 = 8 := by decide
            have hr8 : r - 8 = 0 := by omega
            have hrz : r ≤ z := by omega
            have hrc : r ≤ c - m := by omega
            have h8r : (8 : Int) ≤ (r : Int) := by omega
            have h8c : (8 : Int) ≤ ((c - m : Nat) : Int) := by omega
            try clear hn0
            try clear hs0
            clear hnb HNX HOB HDL HG2 HG6 HBAD HDB HTOB HTOG HPG HDOC HSZ HSL
            go_upto_region 13 with (fail)
            refine wp_region_F (S := (fun w' => w'.cell? ⟨wr.heap.size, 1, none⟩ = some (.slice none 0 0) ∧ Below (wr.alloc (.cells #[.int .u64 ((0 : Nat) : Int), .slice none 0 0] 55)).heap.size (wr.alloc (.cells #[.int .u64 ((0 : Nat) : Int), .slice none 0 0] 55)) w')) [8] (by kernel_rfl) (⟨blk_cell HBX.out 1, (Below.refl _ _).drew⟩) (fun hHeld => ?_)
            (try simp only [Act.put, List.getElem_toArray, List.getElem_cons_succ, List.getElem_cons_zero, List.setIfInBounds_toArray, List.set_cons_zero, List.set_cons_succ])
            refine wpAnyF_take (i := 0) (oi := _) (v := ?_) rfl (by kernel_rfl) (by kernel_rfl) (by kernel_rfl) (by kernel_rfl) (fun _ _ _ h => h) (Or.inl ⟨by rfl, ?_⟩) (by assumption) ?_
            rotate_left 1
            · intro w hSw
              obtain ⟨hS1, hS2⟩ := hSw
              (first | (go_simp; done) | (go_simp; with_reducible rfl))
            (try simp only [Act.put, List.getElem_toArray, List.getElem_cons_succ, List.getElem_cons_zero, List.setIfInBounds_toArray, List.set_cons_zero, List.set_cons_succ])
            refine wpAnyF_take (i := 1) (oi := _) (v := ?_) rfl (by kernel_rfl) (by kernel_rfl) (by kernel_rfl) (by kernel_rfl) (fun _ _ _ h => h) (Or.inl ⟨by rfl, ?_⟩) (by assumption) ?_
            rotate_left 1
            · intro w hSw
              obtain ⟨hS1, hS2⟩ := hSw
              (first | (go_simp; done) | (go_simp; with_reducible rfl))
            (try simp only [Act.put, List.getElem_toArray, List.getElem_cons_succ, List.getElem_cons_zero, List.setIfInBounds_toArray, List.set_cons_zero, List.set_cons_succ])
            refine wpAnyF_take (i := 2) (oi := _) (v := ?_) rfl (by kernel_rfl) (by kernel_rfl) (by kernel_rfl) (by kernel_rfl) (fun _ _ _ h => h) (Or.inl ⟨by rfl, ?_⟩) (by assumption) ?_
            rotate_left 1
            · intro w hSw
              obtain ⟨hS1, hS2⟩ := hSw
              (first | (go_simp; done) | (go_simp; with_reducible rfl))
            (try simp only [Act.put, List.getElem_toArray, List.getElem_cons_succ, List.getElem_cons_zero, List.setIfInBounds_toArray, List.set_cons_zero, List.set_cons_succ])
            refine wpAnyF_take (i := 3) (oi := _) (v := ?_) rfl (by kernel_rfl) (by kernel_rfl) (by kernel_rfl) (by kernel_rfl) (fun _ _ _ h => h) (Or.inl ⟨by rfl, ?_⟩) (by assumption) ?_
            rotate_left 1
            · intro w hSw
              obtain ⟨hS1, hS2⟩ := hSw
              (first | (go_simp; done) | (go_simp; with_reducible rfl))
            (try simp only [Act.put, List.getElem_toArray, List.getElem_cons_succ, List.getElem_cons_zero, List.setIfInBounds_toArray, List.set_cons_zero, List.set_cons_succ])
            refine wpAnyF_take (i := 4) (oi := _) (v := ?_) rfl (by kernel_rfl) (by kernel_rfl) (by kernel_rfl) (by kernel_rfl) (fun _ _ _ h => h) (Or.inl ⟨by rfl, ?_⟩) (by assumption) ?_
            rotate_left 1
            · intro w hSw
              obtain ⟨hS1, hS2⟩ := hSw
              (first | (go_simp; done) | (go_simp; with_reducible rfl))
            (try simp only [Act.put, List.getElem_toArray, List.getElem_cons_succ, List.getElem_cons_zero, List.setIfInBounds_toArray, List.set_cons_zero, List.set_cons_succ])
            refine wpAnyF_take (i := 5) (oi := _) (v := ?_) rfl (by kernel_rfl) (by kernel_rfl) (by kernel_rfl) (by kernel_rfl) (fun _ _ _ h => h) (Or.inl ⟨by rfl, ?_⟩) (by assumption) ?_
            rotate_left 1
            · intro w hSw
              obtain ⟨hS1, hS2⟩ := hSw
              (first | (go_simp; done) | (go_simp; with_reducible rfl))
            (try simp only [Act.put, List.getElem_toArray, List.getElem_cons_succ, List.getElem_cons_zero, List.setIfInBounds_toArray, List.set_cons_zero, List.set_cons_succ])
            refine wpAnyF_ready (rs := [6]) (by kernel_rfl) (by simp) ?_
            refine AllReadyF.cons (o := _) rfl (fun K hK => ?_) AllReadyF.nil
            have HSX := Lib.hid (HSB.out.below hHeld.2)
            refine step_apps _ (.tmp 60) (.tmp 64) rfl (wr.alloc (.cells #[.int .u64 ((0 : Nat) : Int), .slice none 0 0] 55)).heap.size (.slice none 0 0) [] rfl (Own.nil _ _) (wr.alloc (.cells #[.int .u64 ((0 : Nat) : Int), .slice none 0 0] 55)).heap.size (some ⟨b, q + m + 8, none⟩) 0 (c - m - 8) dd rfl HSX.out (by intro e; cases e) (by first | (simp; done) | (simp; omega)) (hHeld.2.size) ?_
            intro v6 w6 ho6 hb6
            have HO6 := Lib.hid ho6
            have HB6 := Lib.hid (hHeld.2.trans hb6)
            clear ho6 hb6
            refine hK.out _ _ ⟨(HB6.out.cell (p := ⟨wr.heap.size, 1, none⟩) HXX.out).trans (blk_cell HBX.out 1), HB6.out⟩ (fun hHeld6 => ?_)
            clear hK K
            (try simp only [Act.put, List.getElem_toArray, List.getElem_cons_succ, List.getElem_cons_zero, List.setIfInBounds_toArray, List.set_cons_zero, List.set_cons_succ])
            refine wpAnyF_take (i := 7) (oi := _) (v := ?_) rfl (by kernel_rfl) (by kernel_rfl) (by kernel_rfl) (by kernel_rfl) (fun _ _ _ h => h) (Or.inl ⟨by rfl, ?_⟩) (by assumption) ?_
            rotate_left 1
            · intro w hSw
              obtain ⟨hS1, hS2⟩ := hSw
              (first | (go_simp; done) | (go_simp; with_reducible rfl))
            (try simp only [Act.put, List.getElem_toArray, List.getElem_cons_succ, List.getElem_cons_zero, List.setIfInBounds_toArray, List.set_cons_zero, List.set_cons_succ])
            refine wpAnyF_ready (rs := [8]) (by kernel_rfl) (by simp) ?_
            refine AllReadyF.last (o := _) rfl (by rfl) (fun K hK => ?_) AllReadyF.nil
            have q1 : w6.cell? ⟨wr.heap.size, 1, none⟩ = some (.slice none 0 0) := hHeld6.1
            have q2 : w6.frozen? ⟨wr.heap.size, 1, none⟩ = false := (World.frozen?_of_block (HB6.out.block _ HXX.out)).trans (blk_free HBX.out 1)
            have q0 : w6.cell? ⟨wr.heap.size, 0, none⟩ = some (.int .u64 ((0 : Nat) : Int)) := (HB6.out.cell (p := ⟨wr.heap.size, 0, none⟩) HXX.out).trans (blk_cell HBX.out 0)
            obtain ⟨A6, c6, e6, hbs6⟩ := HO6.out.bs (by rw [List.nil_append]; exact HBY.out)
            rw [List.nil_append, HDL1.out] at e6
            subst e6
            have HO7 : Hid (Own (w6.setCell ⟨wr.heap.size, 1, none⟩ (.slice A6 0 c6)) w.heap.size (.slice A6 0 c6) dd) := Lib.hid (by
              have h1 := (HO6.out.set18 ⟨wr.heap.size, 1, none⟩ HXX.out (.slice A6 0 c6)).base HB5.out.size
              rw [List.nil_append] at h1; exact h1)
            have HZ7 : Hid (A6 = none → c6 = 0) := Lib.hid (own_zero HO7.out)
            have HB7 : Hid (Below wr.heap.size wr (w6.setCell ⟨wr.heap.size, 1, none⟩ (.slice A6 0 c6))) := Lib.hid ((HAL.out.trans (HB6.out.mono HAL.out.size)).setCell (Nat.le_refl _) _)
            have x1 : (w6.setCell ⟨wr.heap.size, 1, none⟩ (.slice A6 0 c6)).cell? ⟨wr.heap.size, 1, none⟩ = some (.slice A6 0 c6) := World.cell?_setCell_same _ _ _ q1
            have x0 : (w6.setCell ⟨wr.heap.size, 1, none⟩ (.slice A6 0 c6)).cell? ⟨wr.heap.size, 0, none⟩ = some (.int .u64 ((0 : Nat) : Int)) := (World.cell?_setCell_other _ _ _ _ (by intro e; injection e with _ e; cases e)).trans q0
            clear hbs6
            go_simp
            generalize w6.setCell ⟨wr.heap.size, 1, none⟩ (.slice A6 0 c6) = w7 at *
            clear q0 q1 q2
            refine hK.out _ _ ?_
            clear hK K
            (try simp only [Act.put, List.getElem_toArray, List.getElem_cons_succ, List.getElem_cons_zero, List.setIfInBounds_toArray, List.set_cons_zero, List.set_cons_succ])
            refine wpAnyF_done (by kernel_rfl) ?_ _
            have HI7 : Hid (EnI w7 w.heap.size w.heap.size A6 c6 dd) := Lib.hid ⟨.inr ⟨by rw [HDL1.out]; exact HO7.out, HBY.out⟩, HZ7.out⟩
            have HL7 : Hid (ObO w7 w.heap.size w.heap.size v pre) := Lib.hid (HO.out.below (Nat.le_refl _) HB.out.size HB7.out)
            have HS7 : Hid (w.heap.size ≤ w7.heap.size) := Lib.hid (Nat.le_trans HB.out.size HB7.out.size)
            go_wp2_with (at_builtin; refine wp_appO w7 rfl (.tmp 67) (.tmp 69) rfl w.heap.size w.heap.size (Nat.le_refl _) v pre 0 A6 c6 0 dd HDL1.out rfl HL7.out HLN.out rfl HI7.out HS7.out ?_; intro v9 w9 ho9 hb9; have HF : Hid (OqR w z S t v9 (.int .i64 ((j : Int) + 1)) w9) := Lib.hid (HNX1.out v9 w9 ho9 ((HB.out.trans (HB7.out.mono HB.out.size)).trans hb9)); clear ho9 hb9)
            go_roundw
            case rel => exact HF.out
            case measure => simp [intOf]; omega
          · have hs0I : (((sv : Nat) : Int) == 0) = false := by rw [beq_eq_false_iff_ne]; omega
            have HF : Hid (ObTo w z S t (.returned (.tuple #[.slice none 0 0, .bool false])) (wr.alloc (.cells #[.int .u64 (sv : Int), .slice none 0 0] 55))) := Lib.hid (HTOB.out _ HB5.out (HBAD.out (HDB.out.2 (by omega))))
            go_wp2_with fail
            go_ret2
            exact HF.out
        · have hn0I : (((nn : Nat) : Int) == 0) = false := by rw [beq_eq_false_iff_ne]; omega
          rcases Nat.eq_zero_or_pos sv with rfl | hs0
          ·
            have HF : Hid (ObTo w z S t (.returned (.tuple #[.slice none 0 0, .bool false])) (wr.alloc (.cells #[.int .u64 ((0 : Nat) : Int), .slice none 0 0] 55))) := Lib.hid (HTOB.out _ HB5.out (HBAD.out (HDB.out.2 (by omega))))
            go_wp2_with fail
            go_ret2
            exact HF.out
          · have hs0I : (((sv : Nat) : Int) == 0) = false := by rw [beq_eq_false_iff_ne]; omega
            have hnb : ¬ bad := fun h => by
              have := HDB.out.1 h; omega
            have HNX1 := Lib.hid (HNX.out hnb)
            have HBY := Lib.hid (HOB.out hgt).byte
            have HSB := Lib.hid (((HOB.out hgt).below (HAL.out.mono HB.out.size)).more HB5.out.size)
            have HDL1 := Lib.hid (HDL.out hgt)
            obtain ⟨r, hr1, hr2⟩ : ∃ r : Nat, r ≤ 8 + nn ∧ 8 + nn ≤ r := ⟨8 + nn, by omega, by omega⟩
            have hw8 : IntKind.i64.wrap (8 + (nn : Int)) = (r : Int) := by rw [IntWalk.i64_in _ (by omega)]; omega
            have hr8 : r - 8 = nn := by omega
            have hrz : r ≤ z := by omega
            have hrc : r ≤ c - m := by omega
            have h8r : (8 : Int) ≤ (r : Int) := by omega
            have h8c : (8 : Int) ≤ ((c - m : Nat) : Int) := by omega
            try clear hn0
            try clear hs0
            clear hnb HNX HOB HDL HG2 HG6 HBAD HDB HTOB HTOG HPG HDOC HSZ HSL
            go_upto_region 13 with (fail)
            refine wp_region_F (S := (fun w' => w'.cell? ⟨wr.heap.size, 1, none⟩ = some (.slice none 0 0) ∧ Below (wr.alloc (.cells #[.int .u64 (sv : Int), .slice none 0 0] 55)).heap.size (wr.alloc (.cells #[.int .u64 (sv : Int), .slice none 0 0] 55)) w')) [8] (by kernel_rfl) (⟨blk_cell HBX.out 1, (Below.refl _ _).drew⟩) (fun hHeld => ?_)
            (try simp only [Act.put, List.getElem_toArray, List.getElem_cons_succ, List.getElem_cons_zero, List.setIfInBounds_toArray, List.set_cons_zero, List.set_cons_succ])
            refine wpAnyF_take (i := 0) (oi := _) (v := ?_) rfl (by kernel_rfl) (by kernel_rfl) (by kernel_rfl) (by kernel_rfl) (fun _ _ _ h => h) (Or.inl ⟨by rfl, ?_⟩) (by assumption) ?_
            rotate_left 1
            · intro w hSw
              obtain ⟨hS1, hS2⟩ := hSw
              (first | (go_simp; done) | (go_simp; with_reducible rfl))
            (try simp only [Act.put, List.getElem_toArray, List.getElem_cons_succ, List.getElem_cons_zero, List.setIfInBounds_toArray, List.set_cons_zero, List.set_cons_succ])
            refine wpAnyF_take (i := 1) (oi := _) (v := ?_) rfl (by kernel_rfl) (by kernel_rfl) (by kernel_rfl) (by kernel_rfl) (fun _ _ _ h => h) (Or.inl ⟨by rfl, ?_⟩) (by assumption) ?_
            rotate_left 1
            · intro w hSw
              obtain ⟨hS1, hS2⟩ := hSw
              (first | (go_simp; done) | (go_simp; with_reducible rfl))
            (try simp only [Act.put, List.getElem_toArray, List.getElem_cons_succ, List.getElem_cons_zero, List.setIfInBounds_toArray, List.set_cons_zero, List.set_cons_succ])
            refine wpAnyF_take (i := 2) (oi := _) (v := ?_) rfl (by kernel_rfl) (by kernel_rfl) (by kernel_rfl) (by kernel_rfl) (fun _ _ _ h => h) (Or.inl ⟨by rfl, ?_⟩) (by assumption) ?_
            rotate_left 1
            · intro w hSw
              obtain ⟨hS1, hS2⟩ := hSw
              (first | (go_simp; done) | (go_simp; with_reducible rfl))
            (try simp only [Act.put, List.getElem_toArray, List.getElem_cons_succ, List.getElem_cons_zero, List.setIfInBounds_toArray, List.set_cons_zero, List.set_cons_succ])
            refine wpAnyF_take (i := 3) (oi := _) (v := ?_) rfl (by kernel_rfl) (by kernel_rfl) (by kernel_rfl) (by kernel_rfl) (fun _ _ _ h => h) (Or.inl ⟨by rfl, ?_⟩) (by assumption) ?_
            rotate_left 1
            · intro w hSw
              obtain ⟨hS1, hS2⟩ := hSw
              (first | (go_simp; done) | (go_simp; with_reducible rfl))
            (try simp only [Act.put, List.getElem_toArray, List.getElem_cons_succ, List.getElem_cons_zero, List.setIfInBounds_toArray, List.set_cons_zero, List.set_cons_succ])
            refine wpAnyF_take (i := 4) (oi := _) (v := ?_) rfl (by kernel_rfl) (by kernel_rfl) (by kernel_rfl) (by kernel_rfl) (fun _ _ _ h => h) (Or.inl ⟨by rfl, ?_⟩) (by assumption) ?_
            rotate_left 1
            · intro w hSw
              obtain ⟨hS1, hS2⟩ := hSw
              (first | (go_simp; done) | (go_simp; with_reducible rfl))
            (try simp only [Act.put, List.getElem_toArray, List.getElem_cons_succ, List.getElem_cons_zero, List.setIfInBounds_toArray, List.set_cons_zero, List.set_cons_succ])
            refine wpAnyF_take (i := 5) (oi := _) (v := ?_) rfl (by kernel_rfl) (by kernel_rfl) (by kernel_rfl) (by kernel_rfl) (fun _ _ _ h => h) (Or.inl ⟨by rfl, ?_⟩) (by assumption) ?_
            rotate_left 1
            · intro w hSw
              obtain ⟨hS1, hS2⟩ := hSw
              (first | (go_simp; done) | (go_simp; with_reducible rfl))
            (try simp only [Act.put, List.getElem_toArray, List.getElem_cons_succ, List.getElem_cons_zero, List.setIfInBounds_toArray, List.set_cons_zero, List.set_cons_succ])
            refine wpAnyF_ready (rs := [6]) (by kernel_rfl) (by simp) ?_
            refine AllReadyF.cons (o := _) rfl (fun K hK => ?_) AllReadyF.nil
            have HSX := Lib.hid (HSB.out.below hHeld.2)
            refine step_apps _ (.tmp 60) (.tmp 64) rfl (wr.alloc (.cells #[.int .u64 (sv : Int), .slice none 0 0] 55)).heap.size (.slice none 0 0) [] rfl (Own.nil _ _) (wr.alloc (.cells #[.int .u64 (sv : Int), .slice none 0 0] 55)).heap.size (some ⟨b, q + m + 8, none⟩) nn (c - m - 8) dd rfl HSX.out (by intro e; cases e) (by first | (simp; done) | (simp; omega)) (hHeld.2.size) ?_
            intro v6 w6 ho6 hb6
            have HO6 := Lib.hid ho6
            have HB6 := Lib.hid (hHeld.2.trans hb6)
            clear ho6 hb6
            refine hK.out _ _ ⟨(HB6.out.cell (p := ⟨wr.heap.size, 1, none⟩) HXX.out).trans (blk_cell HBX.out 1), HB6.out⟩ (fun hHeld6 => ?_)
            clear hK K
            (try simp only [Act.put, List.getElem_toArray, List.getElem_cons_succ, List.getElem_cons_zero, List.setIfInBounds_toArray, List.set_cons_zero, List.set_cons_succ])
            refine wpAnyF_take (i := 7) (oi := _) (v := ?_) rfl (by kernel_rfl) (by kernel_rfl) (by kernel_rfl) (by kernel_rfl) (fun _ _ _ h => h) (Or.inl ⟨by rfl, ?_⟩) (by assumption) ?_
            rotate_left 1
            · intro w hSw
              obtain ⟨hS1, hS2⟩ := hSw
              (first | (go_simp; done) | (go_simp; with_reducible rfl))
            (try simp only [Act.put, List.getElem_toArray, List.getElem_cons_succ, List.getElem_cons_zero, List.setIfInBounds_toArray, List.set_cons_zero, List.set_cons_succ])
            refine wpAnyF_ready (rs := [8]) (by kernel_rfl) (by simp) ?_
            refine AllReadyF.last (o := _) rfl (by rfl) (fun K hK => ?_) AllReadyF.nil
            have q1 : w6.cell? ⟨wr.heap.size, 1, none⟩ = some (.slice none 0 0) := hHeld6.1
            have q2 : w6.frozen? ⟨wr.heap.size, 1, none⟩ = false := (World.frozen?_of_block (HB6.out.block _ HXX.out)).trans (blk_free HBX.out 1)
            have q0 : w6.cell? ⟨wr.heap.size, 0, none⟩ = some (.int .u64 (sv : Int)) := (HB6.out.cell (p := ⟨wr.heap.size, 0, none⟩) HXX.out).trans (blk_cell HBX.out 0)
            obtain ⟨A6, c6, e6, hbs6⟩ := HO6.out.bs (by rw [List.nil_append]; exact HBY.out)
            rw [List.nil_append, HDL1.out] at e6
            subst e6
            have HO7 : Hid (Own (w6.setCell ⟨wr.heap.size, 1, none⟩ (.slice A6 nn c6)) w.heap.size (.slice A6 nn c6) dd) := Lib.hid (by
              have h1 := (HO6.out.set18 ⟨wr.heap.size, 1, none⟩ HXX.out (.slice A6 nn c6)).base HB5.out.size
              rw [List.nil_append] at h1; exact h1)
            have HZ7 : Hid (A6 = none → c6 = 0) := Lib.hid (own_zero HO7.out)
            have HB7 : Hid (Below wr.heap.size wr (w6.setCell ⟨wr.heap.size, 1, none⟩ (.slice A6 nn c6))) := Lib.hid ((HAL.out.trans (HB6.out.mono HAL.out.size)).setCell (Nat.le_refl _) _)
            have x1 : (w6.setCell ⟨wr.heap.size, 1, none⟩ (.slice A6 nn c6)).cell? ⟨wr.heap.size, 1, none⟩ = some (.slice A6 nn c6) := World.cell?_setCell_same _ _ _ q1
            have x0 : (w6.setCell ⟨wr.heap.size, 1, none⟩ (.slice A6 nn c6)).cell? ⟨wr.heap.size, 0, none⟩ = some (.int .u64 (sv : Int)) := (World.cell?_setCell_other _ _ _ _ (by intro e; injection e with _ e; cases e)).trans q0
            clear hbs6
            go_simp
            generalize w6.setCell ⟨wr.heap.size, 1, none⟩ (.slice A6 nn c6) = w7 at *
            clear q0 q1 q2
            refine hK.out _ _ ?_
            clear hK K
            (try simp only [Act.put, List.getElem_toArray, List.getElem_cons_succ, List.getElem_cons_zero, List.setIfInBounds_toArray, List.set_cons_zero, List.set_cons_succ])
            refine wpAnyF_done (by kernel_rfl) ?_ _
            have HI7 : Hid (EnI w7 w.heap.size w.heap.size A6 c6 dd) := Lib.hid ⟨.inr ⟨by rw [HDL1.out]; exact HO7.out, HBY.out⟩, HZ7.out⟩
            have HL7 : Hid (ObO w7 w.heap.size w.heap.size v pre) := Lib.hid (HO.out.below (Nat.le_refl _) HB.out.size HB7.out)
            have HS7 : Hid (w.heap.size ≤ w7.heap.size) := Lib.hid (Nat.le_trans HB.out.size HB7.out.size)
            go_wp2_with (at_builtin; refine wp_appO w7 rfl (.tmp 67) (.tmp 69) rfl w.heap.size w.heap.size (Nat.le_refl _) v pre sv A6 c6 nn dd HDL1.out rfl HL7.out HLN.out rfl HI7.out HS7.out ?_; intro v9 w9 ho9 hb9; have HF : Hid (OqR w z S t v9 (.int .i64 ((j : Int) + 1)) w9) := Lib.hid (HNX1.out v9 w9 ho9 ((HB.out.trans (HB7.out.mono HB.out.size)).trans hb9)); clear ho9 hb9)
            go_roundw
            case rel => exact HF.out
            case measure => simp [intOf]; omega
      · have hgtI : (z : Int) - 8 < (nn : Int) := by omega
        have HF : Hid (ObTo w z S t (.returned (.tuple #[.slice none 0 0, .bool false])) (wr.alloc (.cells #[.int .u64 (sv : Int), .slice none 0 0] 55))) := Lib.hid (HTOB.out _ HB5.out (HBAD.out (HDB.out.2 (by omega))))
        go_wp2_with fail
        go_ret2
        exact HF.out
    · obtain rfl : j = S := by omega
      have HDC : Hid (∀ i, i < j → ¬ docBad z (winL t z i)) := HNO
      have HLT : Hid ((objs z j t).take j = objs z j t) := Lib.hid (List.take_of_length_le (by rw [objs_len]; omega))
      rw [HLT.out] at HO
      obtain ⟨AV, cV, eV, hV, -⟩ := HO.out.obV (Nat.le_refl _) HB.out.size
      rw [objs_len] at eV hV
      subst eV
      have HV := Lib.hid hV
      have HPG1 := Lib.hid (fun W (h : Below wr.heap.size wr W) => HPG.out W (HB.out.trans (h.mono HB.out.size)) AV cV (HV.out.below h) HDC.out)
      have HCV := Lib.hid (fun W (h : Below wr.heap.size wr W) => conv_at (HBS.out.below (HB.out.trans (h.mono HB.out.size))))
      have HTB : Hid (∀ i, t.getD i 0 < 256) := Lib.hid HBS.out.byte
      have HEQ : Hid (∀ (pg : List Nat), (∀ i, pg.getD i 0 < 256) → ((str pg).toList == (str t).toList) = decide (pg = t)) := Lib.hid (fun pg h => str_toList h HTB.out)
      have HMY : Hid (mayP z j t = decide (pageO z (objs z j t) = t)) := Lib.hid (by
        rw [Bool.eq_iff_iff, HDOC.out, decide_eq_true_iff]
        exact ⟨fun h => h.2, fun h => ⟨HDC.out, h⟩⟩)
      have HTB2 : Hid (∀ w', Below wr.heap.size wr w' → decide (pageO z (objs z j t) = t) = false → ObTo w z j t (.returned (.tuple #[.slice none 0 0, .bool false])) w') := Lib.hid (fun w' h1 h2 => HTOB.out w' (HB.out.trans (h1.mono HB.out.size)) (HMY.out.trans h2))
      have HTG2 : Hid (∀ w', Below wr.heap.size wr w' → decide (pageO z (objs z j t) = t) = true → ObTo w z j t (.returned (.tuple #[.slice AV j cV, .bool true])) w') := Lib.hid (fun w' h1 h2 => HTOG.out AV cV w' (HMY.out.trans h2) (HV.out.below h1) (HB.out.trans (h1.mono HB.out.size)))
      clear HDC HLT HPG HBS HTB HMY HTOB HTOG HDOC HO HSZ HSL hV HV HNO
      generalize pageO z (objs z j t) = pg at *
      go_upto_region 15 with (fail)
      refine wp_region_F (S := (fun w' => Below wr.heap.size wr w')) [] (by kernel_rfl) ((Below.refl _ _).drew) (fun hHeld => ?_)
      (try simp only [Act.put, List.getElem_toArray, List.getElem_cons_succ, List.getElem_cons_zero, List.setIfInBounds_toArray, List.set_cons_zero, List.set_cons_succ])
      refine wpAnyF_take (i := 0) (oi := _) (v := ?_) rfl (by kernel_rfl) (by kernel_rfl) (by kernel_rfl) (by kernel_rfl) (fun _ _ _ h => h) (Or.inl ⟨by rfl, ?_⟩) (by assumption) ?_
      rotate_left 1
      · intro w hSw
        (try dsimp only at hSw)
        have hCV := HCV.out w hSw
        (first | (go_simp; done) | (go_simp; with_reducible rfl))
      (try simp only [Act.put, List.getElem_toArray, List.getElem_cons_succ, List.getElem_cons_zero, List.setIfInBounds_toArray, List.set_cons_zero, List.set_cons_succ])
      refine wpAnyF_take (i := 1) (oi := _) (v := ?_) rfl (by kernel_rfl) (by kernel_rfl) (by kernel_rfl) (by kernel_rfl) (fun _ _ _ h => h) (Or.inl ⟨by rfl, ?_⟩) (by assumption) ?_
      rotate_left 1
      · intro w hSw
        (try dsimp only at hSw)
        have hCV := HCV.out w hSw
        (first | (go_simp; done) | (go_simp; with_reducible rfl))
      (try simp only [Act.put, List.getElem_toArray, List.getElem_cons_succ, List.getElem_cons_zero, List.setIfInBounds_toArray, List.set_cons_zero, List.set_cons_succ])
      refine wpAnyF_take (i := 4) (oi := _) (v := ?_) rfl (by kernel_rfl) (by kernel_rfl) (by kernel_rfl) (by kernel_rfl) (fun _ _ _ h => h) (Or.inl ⟨by rfl, ?_⟩) (by assumption) ?_
      rotate_left 1
      · intro w hSw
        (try dsimp only at hSw)
        have hCV := HCV.out w hSw
        (first | (go_simp; done) | (go_simp; with_reducible rfl))
      (try simp only [Act.put, List.getElem_toArray, List.getElem_cons_succ, List.getElem_cons_zero, List.setIfInBounds_toArray, List.set_cons_zero, List.set_cons_succ])
      refine wpAnyF_take (i := 5) (oi := _) (v := ?_) rfl (by kernel_rfl) (by kernel_rfl) (by kernel_rfl) (by kernel_rfl) (fun _ _ _ h => h) (Or.inl ⟨by rfl, ?_⟩) (by assumption) ?_
      rotate_left 1
      · intro w hSw
        (try dsimp only at hSw)
        have hCV := HCV.out w hSw
        (first | (go_simp; done) | (go_simp; with_reducible rfl))
      (try simp only [Act.put, List.getElem_toArray, List.getElem_cons_succ, List.getElem_cons_zero, List.setIfInBounds_toArray, List.set_cons_zero, List.set_cons_succ])
      refine wpAnyF_ready (rs := [2]) (by kernel_rfl) (by simp) ?_
      refine AllReadyF.cons (o := _) rfl (fun K hK => ?_) AllReadyF.nil
      go_simp
      (go_at_call 23)
      ((with_reducible refine (HPG1.out _ hHeld).mono ?_))
      rintro e w5 ⟨A5, c5, rfl, hb5, hx5, hz5⟩
      have HX := Lib.hid hx5
      have HB5 := Lib.hid (hHeld.trans (hb5.mono hHeld.size))
      clear hx5 hb5 hz5
      refine hK.out _ _ (HB5.out) (fun hHeld2 => ?_)
      clear hK K
      (try simp only [Act.put, List.getElem_toArray, List.getElem_cons_succ, List.getElem_cons_zero, List.setIfInBounds_toArray, List.set_cons_zero, List.set_cons_succ])
      refine wpAnyF_ready (rs := [3]) (by kernel_rfl) (by simp) ?_
      refine AllReadyF.cons (o := _) rfl (fun K hK => ?_) AllReadyF.nil
      have hC5 := conv_at HX.out
      go_simp
      refine hK.out _ _ (HB5.out) (fun hHeld3 => ?_)
      clear hK K
      (try simp only [Act.put, List.getElem_toArray, List.getElem_cons_succ, List.getElem_cons_zero, List.setIfInBounds_toArray, List.set_cons_zero, List.set_cons_succ])
      have hq := HEQ.out pg HX.out.byte
      cases hd : decide (pg = t)
      · rw [hd] at hq
        have HF : Hid (∀ w', Below wr.heap.size wr w' → ObTo w z j t (.returned (.tuple #[.slice none 0 0, .bool false])) w') := Lib.hid (fun w' h => HTB2.out w' h hd)
        clear HTB2 HTG2 hd HEQ
        refine wpAnyF_take (i := 6) (oi := _) (v := ?_) rfl (by kernel_rfl) (by kernel_rfl) (by kernel_rfl) (by kernel_rfl) (fun _ _ _ h => h) (Or.inl ⟨by rfl, ?_⟩) (by assumption) ?_
        rotate_left 1
        · intro w hSw
          (try dsimp only at hSw)
          have hCV := HCV.out w hSw
          (first | (go_simp; done) | (go_simp; with_reducible rfl))
        (try simp only [Act.put, List.getElem_toArray, List.getElem_cons_succ, List.getElem_cons_zero, List.setIfInBounds_toArray, List.set_cons_zero, List.set_cons_succ])
        refine wpAnyF_done (by kernel_rfl) ?_ _
        go_wp2_with fail
        go_ret2
        exact HF.out _ HB5.out
      · rw [hd] at hq
        have HF : Hid (∀ w', Below wr.heap.size wr w' → ObTo w z j t (.returned (.tuple #[.slice AV j cV, .bool true])) w') := Lib.hid (fun w' h => HTG2.out w' h hd)
        clear HTB2 HTG2 hd HEQ
        refine wpAnyF_take (i := 6) (oi := _) (v := ?_) rfl (by kernel_rfl) (by kernel_rfl) (by kernel_rfl) (by kernel_rfl) (fun _ _ _ h => h) (Or.inl ⟨by rfl, ?_⟩) (by assumption) ?_
        rotate_left 1
        · intro w hSw
          (try dsimp only at hSw)
          have hCV := HCV.out w hSw
          (first | (go_simp; done) | (go_simp; with_reducible rfl))
        (try simp only [Act.put, List.getElem_toArray, List.getElem_cons_succ, List.getElem_cons_zero, List.setIfInBounds_toArray, List.set_cons_zero, List.set_cons_succ])
        refine wpAnyF_done (by kernel_rfl) ?_ _
        go_wp2_with fail
        go_ret2
        exact HF.out _ HB5.out
end Go.Proofs.YtflgcddgocojpaaDoor
