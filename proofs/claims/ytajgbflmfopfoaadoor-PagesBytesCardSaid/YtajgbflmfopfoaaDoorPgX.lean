/-
  Sixteen pages as a block: Bytes of the package.
-/
import Derived.Test.YtajgbflmfopfoaaDoorPgW
import Derived.Test.YtajgbflmfopfoaaDoorPgD
import Derived.Test.YtajgbflmfopfoaaDoorWordC
namespace Go.Proofs.YtajgbflmfopfoaaDoor
open Go.RowKit Go Go.Shelf
set_option linter.unusedVariables false
set_option linter.unusedSimpArgs false
set_option maxRecDepth 100000
theorem app_byte {a b : List Nat} (ha : ∀ i, a.getD i 0 < 256) (hb : ∀ i, b.getD i 0 < 256) (i : Nat) : (a ++ b).getD i 0 < 256 := by
  rw [List.getD_eq_getElem?_getD]
  rcases Nat.lt_or_ge i a.length with h | h
  · rw [List.getElem?_append_left h, ← List.getD_eq_getElem?_getD]; exact ha i
  · rw [List.getElem?_append_right h, ← List.getD_eq_getElem?_getD]; exact hb _
theorem putL_byte' (n v i : Nat) (h1 : 1 ≤ n) (h8 : n ≤ 8) : (putL n v).getD i 0 < 256 := by
  have := putI_byte (n : Int) v i
  unfold putI at this
  rw [if_pos (by omega)] at this
  exact this
def bL (p : Pg) : List Nat := byL p.k.toNat p.c.toNat p.r.toNat p.s.toNat p.n.toNat
theorem bL_len (p : Pg) : (bL p).length = 16 := byL_len _ _ _ _ _
theorem bL_byte (p : Pg) (i : Nat) : (bL p).getD i 0 < 256 :=
  app_byte (fun i => putL_byte' 1 _ i (by omega) (by omega)) (fun i => app_byte (fun i => putL_byte' 1 _ i (by omega) (by omega)) (fun i => app_byte (fun i => putL_byte' 2 _ i (by omega) (by omega)) (fun i => app_byte (fun i => putL_byte' 4 _ i (by omega) (by omega)) (fun i => putL_byte' 8 _ i (by omega) (by omega)) i) i) i) i
def flB (l : List Pg) : List Nat := l.flatMap bL
theorem flB_len : ∀ l : List Pg, (flB l).length = 16 * l.length
  | [] => rfl
  | p :: r => by
    have := flB_len r
    unfold flB at this ⊢
    rw [List.flatMap_cons, List.length_append, bL_len, this, List.length_cons]
    omega
theorem flB_byte : ∀ (l : List Pg) (i : Nat), (flB l).getD i 0 < 256
  | [], i => by simp [flB]
  | p :: r, i => by
    unfold flB
    rw [List.flatMap_cons]
    exact app_byte (bL_byte p) (fun i => flB_byte r i) i
theorem flB_step {l : List Pg} {k : Nat} (h : k < l.length) : flB (l.take (k + 1)) = flB (l.take k) ++ bL (pg l k) := by
  rw [take_one h]
  unfold flB
  rw [List.flatMap_append]
  simp
def blkP (l : List Pg) : List Nat := padL (flB l) 256
theorem blkP_pad (l : List Pg) : padI (flB l) 256 = blkP l := by
  unfold padI
  rw [if_pos (by omega)]
  rfl
theorem blkP_len (l : List Pg) : (blkP l).length = 256 := by simp [blkP, padL]
theorem one_nat {p : Pg} (h : oneP p = true) : 0 ≤ p.k ∧ p.k < 4294967296 ∧ 0 ≤ p.c ∧ p.c < 4294967296 ∧ 0 ≤ p.r ∧ p.r < 4294967296 ∧ 0 ≤ p.s ∧ p.s < 4294967296 ∧ 0 ≤ p.n ∧ p.n < 18446744073709551616 := by
  rcases oneP_iff.1 h with rfl | rfl | h | h
  · decide
  · decide
  · obtain ⟨h1, h2, h3, h4, h5, h6⟩ := h; omega
  · obtain ⟨h1, h2, h3, h4, h5, h6, h7⟩ := h; omega
theorem bytes_one (p : Pg) (h : oneP p = true) (W : World) : Calls Tryd.prog 34 #[p.val] W (CcTo W (bL p)) := by
  obtain ⟨h0, k0, h1, k1, h2, k2, h3, k3, h4, k4⟩ := one_nat h
  have := pbytes_any p.k.toNat p.c.toNat p.r.toNat p.s.toNat p.n.toNat (by omega) (by omega) (by omega) (by omega) (by omega) W
  rw [Int.toNat_of_nonneg h0, Int.toNat_of_nonneg h1, Int.toNat_of_nonneg h2, Int.toNat_of_nonneg h3, Int.toNat_of_nonneg h4] at this
  exact this
def PgBytesTo (w : World) (l : List Pg) (e : Ending) (w' : World) : Prop := Below w.heap.size w w' ∧
  ((16 < l.length ∧ e = .returned (.tuple #[.slice none 0 0, .int .i64 1])) ∨ (l.length ≤ 16 ∧ l.all oneP = false ∧ e = .returned (.tuple #[.slice none 0 0, .int .i64 4])) ∨
   (l.length ≤ 16 ∧ l.all oneP = true ∧ ∃ A c, e = .returned (.tuple #[.slice A 256 c, .int .i64 0]) ∧ BS w' w'.heap.size A 256 c (blkP l)))
set_option maxHeartbeats 4000000 in
theorem pgbytes_any (A : Option Addr) (n c : Nat) (l : List Pg) (w : World) (h : PS w A n c l) (hS : SZ w) :
    Calls Tryd.prog 15 #[.slice A n c] w (PgBytesTo w l) := by
  have HP := Lib.hid h
  have HSZ := Lib.hid hS
  have hln := h.len
  have HLN := Lib.hid hln
  have hcn := h.cap
  have hcm := h.capm
  clear h hS hln
  by_cases h16 : 16 < n
  · go_enter Tryd.func15, Tryd.ntmps15
    go_wp2
    refine bodyPost_ret (results_tmp2 rfl _ _ _) rfl ?_
    exact ⟨Below.refl _ _, .inl ⟨by rw [HLN.out]; exact h16, rfl⟩⟩
  · have HA := Lib.hid (all_may A n c l w HP.out HSZ.out)
    obtain ⟨x, hx⟩ : ∃ x, x = l.all oneP := ⟨_, rfl⟩
    rw [← hx] at HA
    have HX := Lib.hid hx
    clear hx
    cases x
    · go_enter Tryd.func15, Tryd.ntmps15
      go_wp2_with fail
      refine HA.out.mono ?_
      rintro e w' ⟨rfl, hb⟩
      have HB := Lib.hid hb
      clear hb
      go_wp2
      refine bodyPost_ret (results_tmp2 rfl _ _ _) rfl ?_
      exact ⟨HB.out, .inr (.inl ⟨by rw [HLN.out]; omega, HX.out.symm, rfl⟩)⟩
    · have HONE : Hid (∀ k, k < n → ∀ W, Calls Tryd.prog 34 #[(pg l k).val] W (CcTo W (bL (pg l k)))) := Lib.hid (fun k hk W => bytes_one _ (all_at HX.out.symm (by rw [HLN.out]; exact hk)) W)
      go_enter Tryd.func15, Tryd.ntmps15
      go_wp2_with fail
      refine HA.out.mono ?_
      rintro e w1 ⟨rfl, hb⟩
      have HB1 := Lib.hid hb
      clear hb
      go_wp2
      go_loopw [4, 17] (fun v i W => ∃ k : Nat, i = .int .i64 (k : Int) ∧ k ≤ n ∧ Own W w.heap.size v (flB (l.take k)) ∧ Below w.heap.size w W) (fun _ i _ => n - (intOf i).toNat)
      case atStart => exact ⟨0, rfl, Nat.zero_le _, Own.nil _ _, HB1.out⟩
      case round =>
        obtain ⟨k, rfl, hk, hown, hb⟩ := hrel
        have HB := Lib.hid hb
        have HOW := Lib.hid hown
        clear hown hb HB1
        by_cases hlt : k < n
        · obtain ⟨b, o, rfl, hb0, hcell⟩ := HP.out.cells (by omega)
          have hbW := (hcell _ HB.out).1
          have hp := (hcell _ HB.out).2 k hlt
          have HCALL := Lib.hid (HONE.out k hlt)
          have HST := Lib.hid (flB_step (l := l) (k := k) (by rw [HLN.out]; exact hlt))
          have HLK : Hid ((flB (l.take k)).length = 16 * k) := Lib.hid (by rw [flB_len, List.length_take, HLN.out]; omega)
          generalize hpe : pg l k = p at *
          obtain ⟨c0, c1, c2, c3, c4⟩ := hp
          have HO2 := Lib.hid (HOW.out.alloc (.cells #[.int .i64 p.k, .int .i64 p.c, .int .i64 p.r, .int .i64 p.s, .int .u64 p.n] OT))
          have HB2 := Lib.hid (HB.out.trans ((bel_alloc wr (.cells #[.int .i64 p.k, .int .i64 p.c, .int .i64 p.r, .int .i64 p.s, .int .u64 p.n] OT)).mono HB.out.size))
          clear hpe hcell
          go_wp2_with fail
          refine (HCALL.out _).mono ?_
          rintro e w2 ⟨v, rfl, hv, hb2⟩
          obtain ⟨A2, c2', rfl, hbs⟩ := hv.bs (bL_byte p)
          rw [bL_len] at hbs
          have HBS := Lib.hid hbs
          have HA2 : Hid (A2 = none → c2' = 0) := Lib.hid (fun q => by
            obtain ⟨b', o', e', _⟩ := HBS.out.at_ (by omega)
            rw [q] at e'
            cases e')
          have HO3 := Lib.hid (HO2.out.below hb2)
          have HB3 := Lib.hid (HB2.out.trans (hb2.mono HB2.out.size))
          clear hv hbs hb2 c0 c1 c2 c3 c4
          rw [bL_len]
          go_wp2_with (at_builtin; refine wp_apps _ rfl _ _ rfl w.heap.size _ (flB (l.take k)) rfl HO3.out _ _ _ _ _ rfl HBS.out HA2.out (by rw [HLK.out]; omega) HB3.out.size ?_; intro v' w3 hown3 hb3; have HOW3 := Lib.hid hown3; have HB4 := Lib.hid (HB3.out.trans hb3); clear hown3 hb3)
          go_roundw
          case rel => exact ⟨k + 1, by go_num, by omega, by rw [HST.out]; exact HOW3.out, HB4.out⟩
          case measure => simp [intOf]; omega
        · obtain rfl : k = n := by omega
          have hO := HOW.out
          rw [List.take_of_length_le (by rw [HLN.out]; exact Nat.le_refl _)] at hO
          obtain ⟨A2, c2', rfl, hbs⟩ := hO.bs (flB_byte l)
          have HLL : Hid ((flB l).length ≤ 1000) := Lib.hid (by rw [flB_len, HLN.out]; omega)
          have HPAD := Lib.hid (pad_any A2 _ c2' 256 (flB l) wr hbs HLL.out)
          clear hO hbs HOW
          generalize (flB l).length = m at *
          go_wp2_with fail
          refine HPAD.out.mono ?_
          rintro e w3 ⟨A3, c3, rfl, hb3, hx3⟩
          rw [blkP_pad, blkP_len] at hx3
          have HX3 := Lib.hid hx3
          have HB3 := Lib.hid (HB.out.trans (hb3.mono HB.out.size))
          rw [blkP_pad, blkP_len]
          clear hb3 hx3
          go_wp2
          refine bodyPost_ret (results_tmp2 rfl _ _ _) rfl ?_
          exact ⟨HB3.out, .inr (.inr ⟨by rw [HLN.out]; omega, HX.out.symm, A3, c3, rfl, HX3.out⟩)⟩
end Go.Proofs.YtajgbflmfopfoaaDoor
