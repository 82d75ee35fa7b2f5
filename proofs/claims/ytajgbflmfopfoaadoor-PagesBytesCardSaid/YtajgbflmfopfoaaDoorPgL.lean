/-
  The document's Take, Give, Turn.
-/
import Derived.Test.YtajgbflmfopfoaaDoorPgK
namespace Go.Proofs.YtajgbflmfopfoaaDoor
open Go.RowKit Go
set_option linter.unusedVariables false
set_option linter.unusedSimpArgs false
set_option maxRecDepth 100000
theorem CopyTo.ans {w w1 w' : World} {l : List Pg} {e : Ending} (hb : Below w.heap.size w w1) (h : CopyTo w1 l e w') : ∃ A c, e = .returned (.slice A l.length c) ∧ AnsTo w (0, l) (.returned (.tuple #[.slice A l.length c, .int .i64 0])) w' := by
  obtain ⟨A, c, h1, h2, _, h4⟩ := h
  exact ⟨A, c, h1, A, c, rfl, h2, hb.trans (h4.mono hb.size)⟩
theorem nil_code {w w' : World} (k : Nat) (hb : Below w.heap.size w w') : AnsTo w (k, []) (.returned (.tuple #[.slice none 0 0, .int .i64 (k : Int)])) w' := nil_ans (R := (k, [])) rfl hb
set_option maxHeartbeats 4000000 in
theorem rtake_any (A : Option Addr) (n c : Nat) (l : List Pg) (a s sn : Int) (w : World) (h : PS w A n c l) (hS : SZ w) (hn : n < 1000) :
    Calls Tryd.prog 27 #[.slice A n c, .int .i64 a, .int .i64 s, .int .u64 sn] w (AnsTo w (takeF l a s sn)) := by
  have HPG := Lib.hid (rpages_any s w hS)
  have HMAY := Lib.hid (rmay_any A n c l w h hS)
  have HP := Lib.hid h
  have hln := h.len
  obtain ⟨x, hx⟩ : ∃ x, x = mayL l := ⟨_, rfl⟩
  rw [← hx] at HMAY
  cases x
  · have HE : Hid (∀ w', Below w.heap.size w w' → AnsTo w (takeF l a s sn) (.returned (.tuple #[.slice none 0 0, .int .i64 4])) w') := Lib.hid (fun w' hb => by
      unfold takeF; rw [if_pos hx.symm]; exact nil_code 4 hb)
    clear h hS hx hln
    generalize takeF l a s sn = R at *
    generalize szR s = r at *
    generalize szB s = b at *
    go_enter Tryd.func27, Tryd.ntmps27
    go_wp2_with fail
    refine HPG.out.mono ?_
    rintro e w' ⟨rfl, rfl⟩
    go_wp2_with fail
    refine HMAY.out.mono ?_
    rintro e w' ⟨rfl, hb⟩
    have HB := Lib.hid hb
    clear hb
    go_wp2
    go_ret2
    exact HE.out _ HB.out
  · have hm := hx.symm
    by_cases hok : okO s sn = true
    · obtain ⟨k1, k2, k3, k4⟩ := okO_iff.1 hok
      have hrp := run_pos k1 k2
      obtain ⟨r, hr⟩ : ∃ r, r = ((s + 255) / 256).toNat := ⟨_, rfl⟩
      rw [← hr] at hrp
      obtain ⟨r1, r2, r3⟩ := hrp
      have hsz : szR s = (r : Int) := by rw [szR_in k1 k2, r3]
      have hsb : szB s = true := decide_eq_true ⟨k1, k2⟩
      rw [hsz, hsb] at HPG
      have n3 : ¬ sn < 1 := by omega
      have n4 : ¬ 281474976710656 ≤ sn := by omega
      by_cases hrg : a < 0 ∨ (l.length : Int) < a + (r : Int)
      · have HE : Hid (∀ w', Below w.heap.size w w' → AnsTo w (takeF l a s sn) (.returned (.tuple #[.slice none 0 0, .int .i64 3])) w') := Lib.hid (fun w' hb => by
          unfold takeF
          rw [if_neg (by rw [hm]; decide), if_neg (fun z => z ⟨k1, k2, k3, k4⟩), if_pos (by rw [← r3]; exact hrg)]
          exact nil_code 3 hb)
        have hcs : a < 0 ∨ (¬ a < 0 ∧ (n : Int) ≤ a) ∨ (¬ a < 0 ∧ ¬ (n : Int) ≤ a ∧ (n : Int) - a < (r : Int)) := by omega
        clear h hS hx hm hok hr hsz hsb hrg r3 hln k1 k2 k3 k4
        generalize takeF l a s sn = R at *
        rcases hcs with h1 | ⟨h1, h2⟩ | ⟨h1, h2, h3⟩
        all_goals
          go_enter Tryd.func27, Tryd.ntmps27
          go_wp2_with fail
          refine HPG.out.mono ?_
          rintro e w' ⟨rfl, rfl⟩
          go_wp2_with fail
          refine HMAY.out.mono ?_
          rintro e w' ⟨rfl, hb⟩
          have HB := Lib.hid hb
          clear hb
          go_wp2
          go_ret2
          exact HE.out _ HB.out
      · obtain ⟨k, rfl⟩ : ∃ k : Nat, a = (k : Int) := ⟨a.toNat, by omega⟩
        have hkr : k + r ≤ l.length := by omega
        have HFN : Hid (takeF l (k : Int) s sn = if freeN l k r = false then (7, []) else (0, layF l k r (hdP s sn) ptl)) := Lib.hid (by
          unfold takeF
          rw [if_neg (by rw [hm]; decide), if_neg (fun z => z ⟨k1, k2, k3, k4⟩), if_neg (by rw [← r3]; exact hrg), Int.toNat_natCast, ← hr])
        have HFR : Hid (∀ W, Below w.heap.size w W → Calls Tryd.prog 46 #[.slice A n c, .int .i64 (k : Int), .int .i64 (r : Int)] W fun e w' => e = .returned (.bool (freeN l k r)) ∧ W = w') := Lib.hid (fun W hb => rfree_any A n c k r l W (h.below hb) (by omega) (by omega) (by omega))
        obtain ⟨z, hz⟩ : ∃ z, z = freeN l k r := ⟨_, rfl⟩
        rw [← hz] at HFN HFR
        have HPE : hdP s sn = ⟨2, 0, (r : Int), s, sn⟩ := by unfold hdP; rw [r3]
        have HLY : Hid (∀ W, Below w.heap.size w W → Calls Tryd.prog 52 #[.slice A n c, .int .i64 (k : Int), .int .i64 (r : Int), Pg.val ⟨2, 0, (r : Int), s, sn⟩, ptl.val] W (CopyTo W (layF l k r (hdP s sn) ptl))) := Lib.hid (fun W hb => by rw [HPE]; exact rlay_any A n c k r _ _ l W (h.below hb) (by omega) r1 (by omega))
        have h1 : ¬ (k : Int) < 0 := by omega
        have h2 : ¬ (n : Int) ≤ (k : Int) := by omega
        have h3 : ¬ (n : Int) - (k : Int) < (r : Int) := by omega
        clear h hS hx hm hok hr hsz hsb hrg r3 hln k1 k2 k3 k4 hz HPE hkr
        obtain ⟨L, hL⟩ : ∃ L, L = layF l k r (hdP s sn) ptl := ⟨_, rfl⟩
        rw [← hL] at HFN HLY
        clear hL
        generalize takeF l (k : Int) s sn = R at *
        cases z
        · have HE : Hid (∀ w', Below w.heap.size w w' → AnsTo w R (.returned (.tuple #[.slice none 0 0, .int .i64 7])) w') := Lib.hid (fun w' hb => by
            rw [HFN.out, if_pos rfl]; exact nil_code 7 hb)
          go_enter Tryd.func27, Tryd.ntmps27
          go_wp2_with fail
          refine HPG.out.mono ?_
          rintro e w' ⟨rfl, rfl⟩
          go_wp2_with fail
          refine HMAY.out.mono ?_
          rintro e w' ⟨rfl, hb⟩
          have HB := Lib.hid hb
          clear hb
          go_wp2_with fail
          refine (HFR.out _ HB.out).mono ?_
          rintro e w2 ⟨rfl, rfl⟩
          go_wp2
          go_ret2
          exact HE.out _ HB.out
        · go_enter Tryd.func27, Tryd.ntmps27
          go_wp2_with fail
          refine HPG.out.mono ?_
          rintro e w' ⟨rfl, rfl⟩
          go_wp2_with fail
          refine HMAY.out.mono ?_
          rintro e w' ⟨rfl, hb⟩
          have HB := Lib.hid hb
          clear hb
          go_wp2_with fail
          refine (HFR.out _ HB.out).mono ?_
          rintro e w2 ⟨rfl, rfl⟩
          go_wp2_with fail
          refine (HLY.out _ HB.out).mono ?_
          rintro e w3 hcp
          obtain ⟨A', c', rfl, han⟩ := CopyTo.ans HB.out hcp
          have HE : Hid (AnsTo w R (.returned (.tuple #[.slice A' L.length c', .int .i64 0])) w3) := Lib.hid (by
            rw [HFN.out, if_neg (by decide)]; exact han)
          clear hcp han
          go_wp2
          go_ret2
          exact HE.out
    · have hok' : okO s sn = false := by simpa using hok
      have HE : Hid (∀ w', Below w.heap.size w w' → AnsTo w (takeF l a s sn) (.returned (.tuple #[.slice none 0 0, .int .i64 1])) w') := Lib.hid (fun w' hb => by
        unfold takeF
        rw [if_neg (by rw [hm]; decide), if_pos (okO_no hok')]
        exact nil_code 1 hb)
      have hcs : szB s = false ∨ (szB s = true ∧ sn < 1) ∨ (szB s = true ∧ ¬ sn < 1 ∧ 281474976710656 ≤ sn) := by
        cases hb : szB s
        · exact .inl rfl
        · by_cases h1 : sn < 1
          · exact .inr (.inl ⟨rfl, h1⟩)
          · refine .inr (.inr ⟨rfl, h1, ?_⟩)
            have := okO_no hok'
            have h2 := of_decide_eq_true hb
            omega
      clear h hS hx hm hok hok' hln
      generalize takeF l a s sn = R at *
      generalize szR s = r at *
      generalize szB s = b at *
      rcases hcs with rfl | ⟨rfl, h1⟩ | ⟨rfl, h1, h2⟩
      all_goals
        go_enter Tryd.func27, Tryd.ntmps27
        go_wp2_with fail
        refine HPG.out.mono ?_
        rintro e w' ⟨rfl, rfl⟩
        go_wp2_with fail
        refine HMAY.out.mono ?_
        rintro e w' ⟨rfl, hb⟩
        have HB := Lib.hid hb
        clear hb
        go_wp2
        go_ret2
        exact HE.out _ HB.out
end Go.Proofs.YtajgbflmfopfoaaDoor
