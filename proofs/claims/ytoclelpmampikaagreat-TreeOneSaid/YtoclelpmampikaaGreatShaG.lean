/-
  A chunk goes into the state.
-/
import Derived.Test.YtoclelpmampikaaGreatShaF
import Derived.BigQuiet
namespace Go.Proofs.YtoclelpmampikaaGreat
open Go.RowKit
set_option linter.unusedVariables false
theorem zero_ws (w : World) : (zeroValue 80).run Tryz.prog w = .ok (.agg (rowV (fun _ => u32 0) 64)) w := by kernel_rfl
/-- a hash's cells -/
def hashF (g : Nat) (s : Sha.St) (tail : List Nat) (n : Nat) (i : Nat) : Value :=
  if i = 0 then .func (Fn.func 68) #[.pointer (some ⟨g, 0, none⟩)] #[] else if i < 9 then u32 (s.at_ (i - 1)) else if i < 73 then u8 (tail.getD (i - 9) 0) else .int .i64 (n : Int)
def IsHash (w : World) (hb g : Nat) (s : Sha.St) (tail : List Nat) (n : Nat) : Prop := Row w hb 127 (hashF g s tail n) 74
def TkRel (w : World) (g hb : Nat) (s : Sha.St) (tail : List Nat) (n : Nat) (l : List Nat) (W : World) : Prop :=
  Below w.heap.size w W ∧ Row W w.heap.size 80 (spF l 64) 64 ∧ IsHash W hb g s tail n ∧ IsTab W g
theorem TkRel.drewN {w W : World} {g hb n : Nat} {s : Sha.St} {tail l : List Nat} (h : TkRel w g hb s tail n l W) (q : Nat) : TkRel w g hb s tail n l (W.drewN q) :=
  ⟨⟨h.1.os, h.1.tape, h.1.output, h.1.size, h.1.block⟩, h.2.1.drewN q, Row.drewN h.2.2.1 q, Row.drewN h.2.2.2 q⟩
theorem tk_start {w w2 : World} {g hb n : Nat} {s : Sha.St} {tail l : List Nat} (ht : IsTab w g) (hh : IsHash w hb g s tail n)
    (h : SpRel (w.alloc (.cells (rowV (fun _ => u32 0) 64) 80)) w.heap.size l 64 w2) : TkRel w g hb s tail n l w2 := by
  have hb1 : Below w.heap.size w w2 := below_only ((Below.refl _ _).alloc (Nat.le_refl _) _) (Nat.le_refl _) (by simp) h.1
  exact ⟨hb1, h.2, Row.below hh hb1 (Row.lt hh), Row.below ht hb1 (Row.lt ht)⟩
theorem sp_zero (w : World) (l : List Nat) : Row (w.alloc (.cells (rowV (fun _ => u32 0) 64) 80)) w.heap.size 80 (spF l 0) 64 :=
  (Row.new w _ _ _).congr fun i _ => by unfold spF; rw [if_neg (by omega)]
def u32v (n : Nat) (v : Value) : Prop := v = .int .u32 (n : Int)
def TkA (w : World) (g hb : Nat) (s : Sha.St) (tail : List Nat) (n : Nat) (l : List Nat) (va vb vc vd ve vf vg vh k : Value) (wr : World) : Prop :=
  ∃ (j : Nat) (t : Sha.St), k = .int .i64 (j : Int) ∧ j ≤ 64 ∧ TkRel w g hb s tail n l wr ∧ t = Sha.rnds (Sha.wl l 64) s j ∧ va = .int .u32 (t.a : Int) ∧ vb = .int .u32 (t.b : Int) ∧ vc = .int .u32 (t.c : Int) ∧ vd = .int .u32 (t.d : Int) ∧
    ve = .int .u32 (t.e : Int) ∧ vf = .int .u32 (t.f : Int) ∧ vg = .int .u32 (t.g : Int) ∧ vh = .int .u32 (t.h : Int)
attribute [local irreducible] Sha.wl Sha.K rowV
theorem tk_next {w W : World} {g hb n j : Nat} {s t : Sha.St} {tail l : List Nat} {kj wj u x y : Nat} (hj : j < 64) (h : TkRel w g hb s tail n l W) (ht : t = Sha.rnds (Sha.wl l 64) s j) (hk : kj = Sha.K.getD j 0) (hw : wj = (Sha.wl l 64).getD j 0)
    (hu : u = (t.h + Sha.bS1 t.e + Sha.ch t.e t.f t.g + kj + wj) % 4294967296) (hx : x = (u + Sha.bS0 t.a + Sha.maj t.a t.b t.c) % 4294967296) (hy : y = (t.d + u) % 4294967296) :
    TkA w g hb s tail n l (.int .u32 (x : Int)) (.int .u32 (t.a : Int)) (.int .u32 (t.b : Int)) (.int .u32 (t.c : Int)) (.int .u32 (y : Int)) (.int .u32 (t.e : Int)) (.int .u32 (t.f : Int)) (.int .u32 (t.g : Int)) (.int .i64 ((j : Int) + 1)) W := by
  subst ht hk hw hu hx hy
  exact ⟨j + 1, Sha.rnd (Sha.rnds (Sha.wl l 64) s j) (Sha.K.getD j 0) ((Sha.wl l 64).getD j 0), rfl, by omega, h, by rw [Sha.rnds], rfl, rfl, rfl, rfl, rfl, rfl, rfl, rfl⟩
theorem tab_K {j : Nat} (h : j < 64) : tabF 64 8 j = .int .u32 ((Sha.K.getD j 0 : Nat) : Int) := by unfold tabF; rw [if_pos h, if_pos h]; rfl
theorem hash_at (g : Nat) (s : Sha.St) (tail : List Nat) (n : Nat) {i : Nat} (h : i < 8) : hashF g s tail n (1 + i) = .int .u32 ((s.at_ i : Nat) : Int) := by
  unfold hashF; rw [if_neg (by omega), if_pos (by omega), Nat.add_sub_cancel_left]; rfl
/-- the state's cells, m of which are summed -/
def plusF (g : Nat) (s u : Sha.St) (tail : List Nat) (n : Nat) (m i : Nat) : Value := if 1 ≤ i ∧ i < 1 + m then u32 ((Sha.plus s u).at_ (i - 1)) else hashF g s tail n i
def TkB (w : World) (g hb : Nat) (s u : Sha.St) (tail : List Nat) (n : Nat) (k : Value) (wr : World) : Prop :=
  ∃ m : Nat, k = .int .i64 (m : Int) ∧ m ≤ 8 ∧ w.grownBy wr (some hb) ∧ Row wr hb 127 (plusF g s u tail n m) 74
theorem tkb_start {w W : World} {g hb n : Nat} {s u : Sha.St} {tail l : List Nat} (h : TkRel w g hb s tail n l W) : TkB w g hb s u tail n (.int .i64 0) W :=
  ⟨0, rfl, by omega, ⟨h.1.os, h.1.tape, h.1.output, h.1.size, fun i hi _ => h.1.block i hi⟩, Row.congr h.2.2.1 fun i _ => by unfold plusF; rw [if_neg (by omega)]⟩
theorem at_plus (s u : Sha.St) {m : Nat} (h : m < 8) : (Sha.plus s u).at_ m = (s.at_ m + u.at_ m) % 4294967296 := by
  rcases (by omega : m = 0 ∨ m = 1 ∨ m = 2 ∨ m = 3 ∨ m = 4 ∨ m = 5 ∨ m = 6 ∨ m = 7) with rfl | rfl | rfl | rfl | rfl | rfl | rfl | rfl <;> rfl
theorem tkb_step {w W : World} {g hb n m x : Nat} {s u : Sha.St} {tail : List Nat} (hm : m < 8) (hg : w.grownBy W (some hb)) (hr : Row W hb 127 (plusF g s u tail n m) 74) (hx : x = (s.at_ m + u.at_ m) % 4294967296) :
    TkB w g hb s u tail n (.int .i64 ((m : Int) + 1)) (W.setCell ⟨hb, 1 + m, none⟩ (.int .u32 (x : Int))) := by
  refine ⟨m + 1, rfl, by omega, only_set (p := ⟨hb, 1 + m, none⟩) hg (.inl rfl) (.int .u32 (x : Int)), (Row.set_ hr (1 + m) (.int .u32 (x : Int))).congr fun i hi => ?_⟩
  subst hx
  unfold plusF
  by_cases e : i = 1 + m
  · subst e; rw [if_pos rfl, if_pos (by omega), Nat.add_sub_cancel_left, at_plus _ _ hm]; rfl
  · rw [if_neg e]
    by_cases h : 1 ≤ i ∧ i < 1 + m
    · rw [if_pos h, if_pos (by omega)]
    · rw [if_neg h, if_neg (by omega)]
theorem TkB.drew {w W : World} {g hb n : Nat} {s u : Sha.St} {tail : List Nat} {k : Value} (h : TkB w g hb s u tail n k W) : TkB w g hb s u tail n k W.drew := by
  obtain ⟨m, hk, hm, hg, hr⟩ := h
  exact ⟨m, hk, hm, only_drew hg, hr.drew⟩
theorem tkb_end {W : World} {g hb n : Nat} {s u : Sha.St} {tail : List Nat} (hr : Row W hb 127 (plusF g s u tail n 8) 74) : IsHash W hb g (Sha.plus s u) tail n := by
  refine Row.congr hr fun i hi => ?_
  unfold plusF hashF
  by_cases h0 : i = 0
  · rw [if_pos h0, if_neg (by omega), if_pos h0]
  · rw [if_neg h0, if_neg h0]
    by_cases h9 : i < 9
    · rw [if_pos h9, if_pos (by omega), if_pos h9]
    · rw [if_neg h9, if_neg h9, if_neg (by omega)]
theorem plus_cell (g : Nat) (s u : Sha.St) (tail : List Nat) (n : Nat) {m : Nat} (h : m < 8) : plusF g s u tail n m (1 + m) = .int .u32 ((s.at_ m : Nat) : Int) := by
  unfold plusF; rw [if_neg (by omega), hash_at g s tail n h]
def stA (u : Sha.St) : Array Value := #[.int .u32 (u.a : Int), .int .u32 (u.b : Int), .int .u32 (u.c : Int), .int .u32 (u.d : Int), .int .u32 (u.e : Int), .int .u32 (u.f : Int), .int .u32 (u.g : Int), .int .u32 (u.h : Int)]
theorem stA_at (u : Sha.St) {m : Nat} (h : m < 8) : (stA u)[m]? = some (.int .u32 ((u.at_ m : Nat) : Int)) := by
  rcases (by omega : m = 0 ∨ m = 1 ∨ m = 2 ∨ m = 3 ∨ m = 4 ∨ m = 5 ∨ m = 6 ∨ m = 7) with rfl | rfl | rfl | rfl | rfl | rfl | rfl | rfl <;> rfl
theorem at_ok {u : Sha.St} (h : u.Ok) {m : Nat} (hm : m < 8) : u.at_ m < 4294967296 := by
  rcases (by omega : m = 0 ∨ m = 1 ∨ m = 2 ∨ m = 3 ∨ m = 4 ∨ m = 5 ∨ m = 6 ∨ m = 7) with rfl | rfl | rfl | rfl | rfl | rfl | rfl | rfl
  · exact h.a
  · exact h.b
  · exact h.c
  · exact h.d
  · exact h.e
  · exact h.f
  · exact h.g
  · exact h.h
theorem plain_w : Tryz.prog.plainKey 79 = true := by kernel_rfl
theorem cells_w : Tryz.prog.cellsOf 79 = 1 := by kernel_rfl
theorem info_w : (Tryz.prog.info? 79).isSome = true := by kernel_rfl
attribute [local irreducible] plusF spF Sha.s0 Sha.s1 tabF Sha.rnds hashF Sha.bS0 Sha.bS1 Sha.ch Sha.maj
set_option maxHeartbeats 2000000 in
set_option maxRecDepth 100000 in
theorem take_any (g hb : Nat) (s : Sha.St) (ok : s.Ok) (tail : List Nat) (n : Nat) (A : Option Addr) (c : Nat) (l : List Nat) (w : World) (ht : IsTab w g) (hh : IsHash w hb g s tail n) (hs : BS w w.heap.size A 64 c l) :
    Calls Tryz.prog 68 #[.pointer (some ⟨g, 0, none⟩), .pointer (some ⟨hb, 1, none⟩), .slice A 64 c] w fun e w' => e = .returned (.tuple #[]) ∧ w.grownBy w' (some hb) ∧ IsHash w' hb g (Sha.block s l) tail n := by
  have hz := zero_ws
  have HT := Lib.hid ht
  have HH := Lib.hid hh
  have HS := Lib.hid hs
  have HB1 : Hid (Below w.heap.size w (w.alloc (.cells (rowV (fun _ => u32 0) 64) 80))) := Lib.hid ((Below.refl _ _).alloc (Nat.le_refl _) _)
  clear ht hh hs
  go_enter Tryz.func68, Tryz.ntmps68
  go_wp2_with fail
  refine (spread_any w.heap.size w.heap.size A c l _ (sp_zero w l) (HS.out.below HB1.out) (Nat.le_refl _)).mono ?_
  rintro e w2 ⟨rfl, hsp⟩
  have HR := Lib.hid (tk_start HT.out HH.out hsp)
  clear hsp HB1 hz
  have k0 : w2.cell? ⟨hb, 1, none⟩ = some (.int .u32 ((s.a : Nat) : Int)) := (HR.out.2.2.1.cell (i := 1 + 0) (by omega)).trans (congrArg some (hash_at _ _ _ _ (by omega)))
  have k1 : w2.cell? ⟨hb, 2, none⟩ = some (.int .u32 ((s.b : Nat) : Int)) := (HR.out.2.2.1.cell (i := 1 + 1) (by omega)).trans (congrArg some (hash_at _ _ _ _ (by omega)))
  have k2 : w2.cell? ⟨hb, 3, none⟩ = some (.int .u32 ((s.c : Nat) : Int)) := (HR.out.2.2.1.cell (i := 1 + 2) (by omega)).trans (congrArg some (hash_at _ _ _ _ (by omega)))
  have k3 : w2.cell? ⟨hb, 4, none⟩ = some (.int .u32 ((s.d : Nat) : Int)) := (HR.out.2.2.1.cell (i := 1 + 3) (by omega)).trans (congrArg some (hash_at _ _ _ _ (by omega)))
  have k4 : w2.cell? ⟨hb, 5, none⟩ = some (.int .u32 ((s.e : Nat) : Int)) := (HR.out.2.2.1.cell (i := 1 + 4) (by omega)).trans (congrArg some (hash_at _ _ _ _ (by omega)))
  have k5 : w2.cell? ⟨hb, 6, none⟩ = some (.int .u32 ((s.f : Nat) : Int)) := (HR.out.2.2.1.cell (i := 1 + 5) (by omega)).trans (congrArg some (hash_at _ _ _ _ (by omega)))
  have k6 : w2.cell? ⟨hb, 7, none⟩ = some (.int .u32 ((s.g : Nat) : Int)) := (HR.out.2.2.1.cell (i := 1 + 6) (by omega)).trans (congrArg some (hash_at _ _ _ _ (by omega)))
  have k7 : w2.cell? ⟨hb, 8, none⟩ = some (.int .u32 ((s.h : Nat) : Int)) := (HR.out.2.2.1.cell (i := 1 + 7) (by omega)).trans (congrArg some (hash_at _ _ _ _ (by omega)))
  go_wp2
  go_quiet (fail)
  have H0 : Hid (TkA w g hb s tail n l (.int .u32 (s.a : Int)) (.int .u32 (s.b : Int)) (.int .u32 (s.c : Int)) (.int .u32 (s.d : Int)) (.int .u32 (s.e : Int)) (.int .u32 (s.f : Int)) (.int .u32 (s.g : Int)) (.int .u32 (s.h : Int)) (.int .i64 0) (w2.drewN nq)) :=
    Lib.hid ⟨0, s, rfl, by omega, HR.out.drewN nq, by unfold Sha.rnds; rfl, rfl, rfl, rfl, rfl, rfl, rfl, rfl, rfl⟩
  clear k0 k1 k2 k3 k4 k5 k6 k7 HR
  go_wp2
  generalize w2.drewN nq = w3 at *
  go_loopw [11, 12, 13, 14, 15, 16, 17, 18, 57] (fun va vb vc vd ve vf vg vh k wr => TkA w g hb s tail n l va vb vc vd ve vf vg vh k wr) (fun _ _ _ _ _ _ _ _ k _ => (64 - intOf k).toNat)
  case atStart => exact H0.out
  case round =>
    obtain ⟨j, t, rfl, hj, hr, het, rfl, rfl, rfl, rfl, rfl, rfl, rfl, rfl⟩ := hrel
    have HR := Lib.hid hr
    have hok : t.Ok := by rw [het]; exact Sha.rnds_ok ok _ _
    have HE := Lib.hid het
    clear hr H0 het
    by_cases hlt : j < 64
    · have kt := HR.out.2.2.2.cell (i := j) (by omega)
      rw [tab_K hlt] at kt
      have kw := HR.out.2.1.cell (i := j) (by omega)
      rw [spF_at l hlt] at kw
      have yt := Sha.K_lt j
      have yw := Sha.wl_lt HS.out.byte 64 j
      have HN := Lib.hid (fun q u x y => tk_next (kj := Sha.K.getD j 0) (wj := (Sha.wl l 64).getD j 0) (u := u) (x := x) (y := y) hlt (HR.out.drewN q) HE.out rfl rfl)
      clear HR HE
      generalize Sha.K.getD j 0 = kj at *
      generalize (Sha.wl l 64).getD j 0 = wj at *
      obtain ⟨a, b, c, d, e, f, g', h⟩ := t
      obtain ⟨ya, yb, yc, yd, ye, yf, yg, yh⟩ := hok
      go_wp2
      go_quiet (first
        | exact Calls.quiet_of_same ((far_any _ ye _).mono fun _ _ h => ⟨h.1, h.2.symm⟩)
        | exact Calls.quiet_of_same ((choose_any _ _ _ ye yf yg _).mono fun _ _ h => ⟨h.1, h.2.symm⟩))
      have HU : Hid ((((h : Int) + (Sha.bS1 e : Nat) + (Sha.ch e f g' : Nat) + (kj : Int)) % 4294967296 + (wj : Int)) % 4294967296 = (((h + Sha.bS1 e + Sha.ch e f g' + kj + wj) % 4294967296 : Nat) : Int)) := Lib.hid (by omega)
      rw [HU.out]
      have HN2 := Lib.hid (fun x y => HN.out nq _ x y rfl)
      clear HU HN
      have yu : (h + Sha.bS1 e + Sha.ch e f g' + kj + wj) % 4294967296 < 4294967296 := Nat.mod_lt _ (by omega)
      generalize (h + Sha.bS1 e + Sha.ch e f g' + kj + wj) % 4294967296 = u at *
      have HX : Hid ((((u : Int) + (Sha.bS0 a : Nat)) % 4294967296 + (Sha.maj a b c : Nat)) % 4294967296 = (((u + Sha.bS0 a + Sha.maj a b c) % 4294967296 : Nat) : Int)) := Lib.hid (by omega)
      have HX2 : Hid (((u : Int) + (Sha.bS0 a : Nat) + (Sha.maj a b c : Nat)) % 4294967296 = (((u + Sha.bS0 a + Sha.maj a b c) % 4294967296 : Nat) : Int)) := Lib.hid (by omega)
      have HY : Hid (((d : Int) + (u : Int)) % 4294967296 = (((d + u) % 4294967296 : Nat) : Int)) := Lib.hid (by omega)
      generalize wr.drewN nq = w4 at *
      go_wp2_with (first
        | ((with_reducible refine (near_any _ ya _).mono ?_); rintro e w' ⟨rfl, rfl⟩)
        | ((with_reducible refine (most_any _ _ _ ya yb yc _).mono ?_); rintro e w' ⟨rfl, rfl⟩))
      go_roundw
      case rel => rw [HX.out, HY.out]; exact HN2.out _ _ rfl rfl
      case measure => simp [intOf]; omega
    · obtain rfl : j = 64 := by omega
      have HP := Lib.hid (tkb_start (u := t) HR.out)
      have HB : Hid (Sha.block s l = Sha.plus s t) := Lib.hid (by rw [HE.out]; rfl)
      clear HR HE
      obtain ⟨ta, tb, tc, td, te, tf, tg, th⟩ := t
      rw [show ((64 : Nat) : Int) = 64 from rfl]
      go_wp2
      obtain ⟨wo, hwo⟩ : ∃ wo : World, wo = wr := ⟨_, rfl⟩
      subst hwo
      go_loopw [112] (fun k wr => TkB w g hb s ⟨ta, tb, tc, td, te, tf, tg, th⟩ tail n k wr) (fun k _ => (8 - intOf k).toNat)
      case atStart => exact HP.out
      case round =>
        obtain ⟨m, rfl, hm, hr⟩ := hrel
        have HR := Lib.hid hr
        clear hr HP
        have hidx : m < 8 → ∀ W : World, (Instr.index 82 (.agg (stA ⟨ta, tb, tc, td, te, tf, tg, th⟩)) (.int .i64 (m : Int))).run Tryz.prog W = .ok (.int .u32 (((⟨ta, tb, tc, td, te, tf, tg, th⟩ : Sha.St).at_ m : Nat) : Int)) W := fun h W =>
          run_index_arr 82 79 8 _ m _ W Tryz.underlying82 plain_w cells_w info_w h (stA_at _ h)
        have hax : m < 8 → (⟨ta, tb, tc, td, te, tf, tg, th⟩ : Sha.St).at_ m < 4294967296 := fun h => at_ok hok h
        obtain ⟨hgb, hrow⟩ := HR.out
        by_cases hlt : m < 8
        · have hi := hidx hlt
          have hax2 := hax hlt
          unfold stA at hi
          have kc := hrow.cell (i := 1 + m) (by omega)
          rw [plus_cell _ _ _ _ _ hlt] at kc
          have kf := hrow.free (1 + m)
          have hsx := at_ok ok hlt
          have HN := Lib.hid (fun x hx => (tkb_step (x := x) hlt hgb hrow hx).drew)
          clear hidx hax HR hgb hrow
          generalize (⟨ta, tb, tc, td, te, tf, tg, th⟩ : Sha.St).at_ m = x at *
          generalize s.at_ m = y at *
          have HX : Hid (((y : Int) + (x : Int)) % 4294967296 = (((y + x) % 4294967296 : Nat) : Int)) := Lib.hid (by omega)
          go_wp2
          go_region
          all_goals
            go_wp2
            go_roundw
            case rel => rw [HX.out]; exact HN.out _ rfl
            case measure => simp [intOf]; omega
        · obtain rfl : m = 8 := by omega
          have HE2 := Lib.hid (tkb_end hrow)
          have HG := Lib.hid hgb
          clear hidx hax HR hrow hgb
          go_wp2
          go_end0
          exact ⟨rfl, HG.out, by rw [HB.out]; exact HE2.out⟩
end Go.Proofs.YtoclelpmampikaaGreat
