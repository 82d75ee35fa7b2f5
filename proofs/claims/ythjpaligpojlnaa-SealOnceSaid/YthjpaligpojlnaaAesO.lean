/-
  The schedule is made.
-/
import Derived.Test.YthjpaligpojlnaaAesN
import Derived.Test.YthjpaligpojlnaaCut
import Derived.Laws.Cover3
namespace Go.Proofs.Ythjpaligpojlnaa
open Go.RowKit Go
set_option linter.unusedVariables false
attribute [local irreducible] Gf.inv Gf.tm Gf.pw Gf.spread Gf.sub Gf.boxAt Gf.bk Gf.rm Gf.bit
theorem cut_key (A : Option Addr) (n c k : Nat) (hk : k ≤ n) (w : World) : (Instr.slice 89 (.slice A n c) (some (.int .i64 (k : Int))) none none).run Try.prog w = .ok (.slice (cutA A c k) (n - k) (c - k)) w :=
  run_cut 89 5 Try.underlying89 (by kernel_rfl) A n c k hk w
theorem col_key (a : Option Addr) (n c : Nat) (hn : 4 ≤ n) (w : World) : (Instr.arrayAt 73 (.slice a n c)).run Try.prog w = .ok (.pointer a) w :=
  run_arrayAt w 73 _ 4 a n c Try.underlying73 hn
abbrev ExC (w : World) (B g N m k : Nat) (ks : List Nat) (a b c d : Nat) (W : World) : Prop :=
  W.cell? ⟨g, 513 + k * 4, none⟩ = some (.int .u8 (a : Int)) ∧ W.cell? ⟨g, 513 + k * 4 + 1, none⟩ = some (.int .u8 (b : Int)) ∧ W.cell? ⟨g, 513 + k * 4 + 2, none⟩ = some (.int .u8 (c : Int)) ∧ W.cell? ⟨g, 513 + k * 4 + 3, none⟩ = some (.int .u8 (d : Int)) ∧ ExS w B g N m ks W
section
variable {w W W' : World} {B g N m k a b c d : Nat} {ks : List Nat}
theorem ExS.all (h : ExS w B g N m ks W) (hk : k < 60) (hne : k ≠ m) (h0 : ks.getD (4 * k + 0) 0 = a) (h1 : ks.getD (4 * k + 1) 0 = b) (h2 : ks.getD (4 * k + 2) 0 = c) (h3 : ks.getD (4 * k + 3) 0 = d) : ExC w B g N m k ks a b c d W := by
  subst h0 h1 h2 h3
  have q := h.word hk hne
  exact ⟨q.a0, q.a1, q.a2, q.a3, h⟩
theorem ex_next (hk : k < 60) (hne : k ≠ m) (hb : Below W.heap.size W W') (h : ExC w B g N m k ks a b c d W) : ExC w B g N m k ks a b c d W' := by
  have e : ∀ o, W'.cell? ⟨g, o, none⟩ = W.cell? ⟨g, o, none⟩ := fun o => hb.cell (p := ⟨g, o, none⟩) h.2.2.2.2.lt
  exact ⟨(e _).trans h.1, (e _).trans h.2.1, (e _).trans h.2.2.1, (e _).trans h.2.2.2.1, h.2.2.2.2.next hb⟩
theorem cell_set_ne (W : World) (g o o' : Nat) (v : Value) (h : o ≠ o') : (W.setCell ⟨g, o, none⟩ v).cell? ⟨g, o', none⟩ = W.cell? ⟨g, o', none⟩ :=
  World.cell?_setCell_other _ _ _ _ (by intro e; injection e with _ e; exact h e)
theorem ex_set (hne : k ≠ m) {q : Nat} (hq : q < 4) (u : Value) (h : ExC w B g N m k ks a b c d W) : ExC w B g N m k ks a b c d (W.setCell ⟨g, 513 + m * 4 + q, none⟩ u) := by
  have e : ∀ r, r < 4 → (W.setCell ⟨g, 513 + m * 4 + q, none⟩ u).cell? ⟨g, 513 + k * 4 + r, none⟩ = W.cell? ⟨g, 513 + k * 4 + r, none⟩ := fun r hr => cell_set_ne _ _ _ _ _ (by omega)
  exact ⟨(e 0 (by omega)).trans h.1, (e 1 (by omega)).trans h.2.1, (e 2 (by omega)).trans h.2.2.1, (e 3 (by omega)).trans h.2.2.2.1, h.2.2.2.2.set hq u⟩
theorem ex_set4 (hne : k ≠ m) (u0 u1 u2 u3 : Value) (h : ExC w B g N m k ks a b c d W) :
    ExC w B g N m k ks a b c d ((((W.setCell ⟨g, 513 + m * 4, none⟩ u0).setCell ⟨g, 513 + m * 4 + 1, none⟩ u1).setCell ⟨g, 513 + m * 4 + 2, none⟩ u2).setCell ⟨g, 513 + m * 4 + 3, none⟩ u3) :=
  ex_set hne (q := 3) (by omega) u3 (ex_set hne (q := 2) (by omega) u2 (ex_set hne (q := 1) (by omega) u1 (ex_set hne (q := 0) (by omega) u0 h)))
theorem ExS.below4 (h : ExS w B g N m ks W) (u0 u1 u2 u3 : Value) : Below B w ((((W.setCell ⟨g, 513 + m * 4, none⟩ u0).setCell ⟨g, 513 + m * 4 + 1, none⟩ u1).setCell ⟨g, 513 + m * 4 + 2, none⟩ u2).setCell ⟨g, 513 + m * 4 + 3, none⟩ u3) :=
  (((h.below.setCell h.far _).setCell h.far _).setCell h.far _).setCell h.far _
end
def ExA (w : World) (g N n : Nat) (key : List Nat) (lim : Nat) (v : Value) (wr : World) : Prop :=
  ∃ i : Nat, v = .int .i64 (i : Int) ∧ i ≤ lim ∧ Below g w wr ∧ CipR wr g N (Aes.sch Gf.sub key n i)
def ExB (w : World) (g N n : Nat) (key : List Nat) (lim : Nat) (v : Value) (wr : World) : Prop :=
  ∃ i : Nat, v = .int .i64 (i : Int) ∧ n ≤ i ∧ i ≤ lim ∧ Below g w wr ∧ CipR wr g N (Aes.sch Gf.sub key n i)
set_option maxHeartbeats 2000000 in
set_option maxRecDepth 100000 in
theorem expand_any (g N n L M : Nat) (hn : n = 4 ∨ n = 8) (hN : N = n + 6) (hL : L = 4 * n) (hM : M = 4 * (N + 1)) (b off c : Nat) (key : List Nat) (w : World) (h : CipR w g N []) (hks : BS w g (some ⟨b, off, none⟩) L c key) :
    Calls Try.prog 30 #[.pointer (some ⟨g, 0, none⟩), .slice (some ⟨b, off, none⟩) L c] w fun e w' => e = .returned (.tuple #[]) ∧ CipR w' g N (Aes.sch Gf.sub key n M) ∧ Below g w w' := by
  have qL : (L : Int) / 4 = (n : Int) := by omega
  have qM : 4 * ((N : Int) + 1) = (M : Int) := by omega
  have hM60 : M ≤ 60 := by omega
  have hnM : n ≤ M := by omega
  have hbg : b < g := by
    obtain ⟨b', o', e, hb, _⟩ := hks.at_ (by omega)
    injection e with e; injection e with e1; omega
  have hcell : ∀ j, j < L → w.cell? ⟨b, off + j, none⟩ = some (.int .u8 ((key.getD j 0 : Nat) : Int)) := by
    obtain ⟨b', o', e, hb, hc⟩ := hks.at_ (by omega)
    injection e with e; injection e with e1 e2; subst e1 e2
    exact hc
  have hcap := hks.cap.1
  have hcap2 := hks.cap.2
  have hby : ∀ i j, (Aes.sch Gf.sub key n i).getD j 0 < 256 := Aes.sch_byte (fun c hc => Gf.sub_lt hc) hks.byte
  have hgw : g ≤ w.heap.size := Nat.le_of_lt h.lt
  have HC := Lib.hid hcell
  have HBY := Lib.hid hby
  have H0 : Hid (ExA w g N n key n (.int .i64 0) w) := Lib.hid ⟨0, rfl, by omega, Below.refl _ _, h⟩
  have hL1 : L ≤ 4 * n := by omega
  have hL2 : 4 * n ≤ L := by omega
  have hM1 : M ≤ 4 * (n + 7) := by omega
  have hM2 : 4 * (n + 7) ≤ M := by omega
  have HN := Lib.hid hN
  clear hcell hks h hby hL hM hN
  go_enter Try.func30, Try.ntmps30
  go_wp2
  go_loopw [11] (fun v wr => ExA w g N n key n v wr) (fun v _ => (n - intOf v).toNat)
  case atStart => exact H0.out
  case round =>
    obtain ⟨i, rfl, hi, hb, hc⟩ := hrel
    have HB := Lib.hid hb
    have HCI := Lib.hid hc
    clear hb hc H0
    by_cases hlt : i < n
    · have hi1 : (i : Int) < (n : Int) := by omega
      have hS := ExS.of (m := i) hgw (Nat.le_refl g) HB.out HCI.out
      have hk : ∀ j, j < L → wr.cell? ⟨b, off + j, none⟩ = some (.int .u8 ((key.getD j 0 : Nat) : Int)) := fun j hj => (HB.out.cell (p := ⟨b, off + j, none⟩) hbg).trans (HC.out j hj)
      obtain ⟨x0, hx0⟩ : ∃ x, x = key.getD (4 * i + 0) 0 := ⟨_, rfl⟩
      obtain ⟨x1, hx1⟩ : ∃ x, x = key.getD (4 * i + 1) 0 := ⟨_, rfl⟩
      obtain ⟨x2, hx2⟩ : ∃ x, x = key.getD (4 * i + 2) 0 := ⟨_, rfl⟩
      obtain ⟨x3, hx3⟩ : ∃ x, x = key.getD (4 * i + 3) 0 := ⟨_, rfl⟩
      have k0 : wr.cell? ⟨b, off + 4 * i, none⟩ = some (.int .u8 (x0 : Int)) := by rw [hx0]; exact hk (4 * i + 0) (by omega)
      have k1 : wr.cell? ⟨b, off + 4 * i + 1, none⟩ = some (.int .u8 (x1 : Int)) := by rw [hx1, Nat.add_assoc]; exact hk (4 * i + 1) (by omega)
      have k2 : wr.cell? ⟨b, off + 4 * i + 2, none⟩ = some (.int .u8 (x2 : Int)) := by rw [hx2, Nat.add_assoc]; exact hk (4 * i + 2) (by omega)
      have k3 : wr.cell? ⟨b, off + 4 * i + 3, none⟩ = some (.int .u8 (x3 : Int)) := by rw [hx3, Nat.add_assoc]; exact hk (4 * i + 3) (by omega)
      obtain ⟨⟨v0, c0⟩, f0⟩ := hS.there (q := 0) (by omega) (by omega)
      obtain ⟨⟨v1, c1⟩, f1⟩ := hS.there (q := 1) (by omega) (by omega)
      obtain ⟨⟨v2, c2⟩, f2⟩ := hS.there (q := 2) (by omega) (by omega)
      obtain ⟨⟨v3, c3⟩, f3⟩ := hS.there (q := 3) (by omega) (by omega)
      rw [Nat.add_zero] at c0 f0
      have HX := Lib.hid (hS.drew.end_ (a := x0) (b := x1) (c := x2) (d := x3) (by omega) (by rw [Aes.sch_new (by omega), if_pos hlt, hx0]) (by rw [Aes.sch_new (by omega), if_pos hlt, hx1]) (by rw [Aes.sch_new (by omega), if_pos hlt, hx2]) (by rw [Aes.sch_new (by omega), if_pos hlt, hx3]))
      have HB4 := Lib.hid (hS.drew.below4 (.int .u8 (x0 : Int)) (.int .u8 (x1 : Int)) (.int .u8 (x2 : Int)) (.int .u8 (x3 : Int)))
      have hsl : ∀ W : World, (Instr.slice 89 (.slice (some ⟨b, off, none⟩) L c) (some (.int .i64 (4 * (i : Int)))) none none).run Try.prog W = .ok (.slice (some ⟨b, off + 4 * i, none⟩) (L - 4 * i) (c - 4 * i)) W := fun W => by
        have := cut_key (some ⟨b, off, none⟩) L c (4 * i) (by omega) W
        unfold cutA at this
        rw [if_neg (by omega)] at this
        simpa [Go.WideShapes.add_plain] using this
      have har : ∀ W : World, (Instr.arrayAt 73 (.slice (some ⟨b, off + 4 * i, none⟩) (L - 4 * i) (c - 4 * i))).run Try.prog W = .ok (.pointer (some ⟨b, off + 4 * i, none⟩)) W := fun W => col_key _ _ _ (by omega) W
      have q1 : IntKind.i64.wrap (4 * (i : Int)) = 4 * (i : Int) := IntWalk.i64_in _ (by omega)
      have hat := fun W => at_any g i (by omega) W
      have HAT := Lib.hid hat
      clear hS hk hx0 hx1 hx2 hx3 hat HB HCI
      go_wp2_with fail
      go_region_with (first
        | (go_at_call 42; (with_reducible refine (HAT.out _).mono ?_); rintro e w2 ⟨rfl, rfl⟩))
      all_goals
        go_wp2
        go_roundw
        case rel => exact ⟨i + 1, rfl, by omega, HB4.out, HX.out⟩
        case measure => simp [intOf]; omega
    · obtain rfl : n = i := by omega
      have hn8 : n ≤ 8 := by omega
      have hN14 : N ≤ 14 := by have := HN.out; omega
      have H1 : Hid (ExB w g N n key M (.int .i64 (n : Int)) wr) := Lib.hid ⟨n, rfl, Nat.le_refl _, hnM, HB.out, HCI.out⟩
      have qw1 : IntKind.i64.wrap ((N : Int) + 1) = (N : Int) + 1 := IntWalk.i64_in _ (by omega)
      have qw2 : IntKind.i64.wrap (M : Int) = (M : Int) := IntWalk.i64_in _ (by omega)
      clear HB HCI HC
      go_wp2
      go_loopw [6] (fun v wr => ExB w g N n key M v wr) (fun v _ => (M - intOf v).toNat)
      case atStart => exact H1.out
      case round =>
        obtain ⟨i, rfl, hni, hiM, hb, hc⟩ := hrel
        have HB := Lib.hid hb
        have HCI := Lib.hid hc
        have kr := hc.rounds
        clear hb hc H1
        by_cases hlt : i < M
        · have hi1 : (i : Int) < (M : Int) := by omega
          have hi60 : i < 60 := by omega
          have hS := ExS.of (m := i) hgw (Nat.le_refl g) HB.out HCI.out
          obtain ⟨k, hk⟩ : ∃ k, k = i - n := ⟨_, rfl⟩
          have qk : (i : Int) - (n : Int) = (k : Int) := by omega
          have hk60 : k < 60 := by omega
          have hkne : k ≠ i := by omega
          have qk1 : IntKind.i64.wrap (k : Int) = (k : Int) := IntWalk.i64_in _ (by omega)
          have qk2 : IntKind.i64.wrap ((i : Int) - (n : Int)) = (k : Int) := by rw [qk, qk1]
          obtain ⟨x0, hx0⟩ : ∃ x, x = (Aes.sch Gf.sub key n i).getD (4 * k + 0) 0 := ⟨_, rfl⟩
          obtain ⟨x1, hx1⟩ : ∃ x, x = (Aes.sch Gf.sub key n i).getD (4 * k + 1) 0 := ⟨_, rfl⟩
          obtain ⟨x2, hx2⟩ : ∃ x, x = (Aes.sch Gf.sub key n i).getD (4 * k + 2) 0 := ⟨_, rfl⟩
          obtain ⟨x3, hx3⟩ : ∃ x, x = (Aes.sch Gf.sub key n i).getD (4 * k + 3) 0 := ⟨_, rfl⟩
          obtain ⟨p0, hp0⟩ : ∃ x, x = bv n (Aes.sch Gf.sub key n i) i 0 := ⟨_, rfl⟩
          obtain ⟨p1, hp1⟩ : ∃ x, x = bv n (Aes.sch Gf.sub key n i) i 1 := ⟨_, rfl⟩
          obtain ⟨p2, hp2⟩ : ∃ x, x = bv n (Aes.sch Gf.sub key n i) i 2 := ⟨_, rfl⟩
          obtain ⟨p3, hp3⟩ : ∃ x, x = bv n (Aes.sch Gf.sub key n i) i 3 := ⟨_, rfl⟩
          obtain ⟨y0, hy0⟩ : ∃ y, y = x0 ^^^ p0 := ⟨_, rfl⟩
          obtain ⟨y1, hy1⟩ : ∃ y, y = x1 ^^^ p1 := ⟨_, rfl⟩
          obtain ⟨y2, hy2⟩ : ∃ y, y = x2 ^^^ p2 := ⟨_, rfl⟩
          obtain ⟨y3, hy3⟩ : ∃ y, y = x3 ^^^ p3 := ⟨_, rfl⟩
          have s0 : (Aes.sch Gf.sub key n (i + 1)).getD (4 * i + 0) 0 = y0 := by rw [Aes.sch_new (by omega), if_neg (by omega), wnext_bv, ← hk, hy0, hx0, hp0]
          have s1 : (Aes.sch Gf.sub key n (i + 1)).getD (4 * i + 1) 0 = y1 := by rw [Aes.sch_new (by omega), if_neg (by omega), wnext_bv, ← hk, hy1, hx1, hp1]
          have s2 : (Aes.sch Gf.sub key n (i + 1)).getD (4 * i + 2) 0 = y2 := by rw [Aes.sch_new (by omega), if_neg (by omega), wnext_bv, ← hk, hy2, hx2, hp2]
          have s3 : (Aes.sch Gf.sub key n (i + 1)).getD (4 * i + 3) 0 = y3 := by rw [Aes.sch_new (by omega), if_neg (by omega), wnext_bv, ← hk, hy3, hx3, hp3]
          have HE := Lib.hid (fun W (hW : ExS w g g N i (Aes.sch Gf.sub key n i) W) => hW.end_ hi60 s0 s1 s2 s3)
          have HBE : Hid (∀ W, ExS w g g N i (Aes.sch Gf.sub key n i) W → Calls Try.prog 44 #[.pointer (some ⟨g, 0, none⟩), .int .i64 (i : Int), .int .i64 (n : Int)] W fun e w' => e = .returned (.agg (l4 p0 p1 p2 p3)) ∧ Below W.heap.size W w') := Lib.hid fun W hW => by
            rw [hp0, hp1, hp2, hp3]
            exact bent_any g n i hn hni hi60 _ (HBY.out i) W (hW.word (by omega) (by omega)) hW.box
          have HPL : Hid (∀ W : World, Calls Try.prog 43 #[.agg #[.int .u8 (x0 : Int), .int .u8 (x1 : Int), .int .u8 (x2 : Int), .int .u8 (x3 : Int)], .agg (l4 p0 p1 p2 p3)] W fun e w' => e = .returned (.agg (l4 y0 y1 y2 y3)) ∧ Below W.heap.size W w') := Lib.hid fun W => by
            rw [hy0, hy1, hy2, hy3, hp0, hp1, hp2, hp3, hx0, hx1, hx2, hx3]
            exact plus4 (HBY.out i _) (HBY.out i _) (HBY.out i _) (HBY.out i _) (bv_lt (HBY.out i) _) (bv_lt (HBY.out i) _) (bv_lt (HBY.out i) _) (bv_lt (HBY.out i) _) W
          have HS1 : Hid (ExC w g g N i k (Aes.sch Gf.sub key n i) x0 x1 x2 x3 wr.drew) := Lib.hid (hS.drew.all hk60 hkne hx0.symm hx1.symm hx2.symm hx3.symm)
          have HAT := Lib.hid (fun W => at_any g i hi60 W)
          have HAK := Lib.hid (fun W => at_any g k hk60 W)
          clear hS hx0 hx1 hx2 hx3 hp0 hp1 hp2 hp3 hy0 hy1 hy2 hy3 s0 s1 s2 s3 HB HCI hk
          generalize Aes.sch Gf.sub key n i = ks at *
          go_wp2_with fail
          clear kr
          go_region_held3 (fun w' => ExC w g g N i k ks x0 x1 x2 x3 w')
            (first | assumption | exact HS1.out | exact ex_next hk60 hkne (by assumption) (show ExC _ _ _ _ _ _ _ _ _ _ _ _ by assumption) | exact ex_set4 hkne _ _ _ _ (show ExC _ _ _ _ _ _ _ _ _ _ _ _ by assumption))
            (first
            | (go_at_call 42; (with_reducible refine (HAT.out _).mono ?_); rintro e w2 ⟨rfl, rfl⟩)
            | (go_at_call 42; (with_reducible refine (HAK.out _).mono ?_); rintro e w2 ⟨rfl, rfl⟩)
            | (go_at_call 44; (with_reducible refine (HBE.out _ (show ExC w g g N i k ks x0 x1 x2 x3 _ by assumption).2.2.2.2).mono ?_); rintro e w3 ⟨rfl, hb3⟩)
            | (go_at_call 43; (with_reducible refine (HPL.out _).mono ?_); rintro e w4 ⟨rfl, hb4⟩
               have hs4 := ExS.next (show ExC w g g N i k ks x0 x1 x2 x3 _ by assumption).2.2.2.2 hb4
               obtain ⟨⟨v0, c0⟩, f0⟩ := hs4.there (q := 0) (by omega) (by omega)
               obtain ⟨⟨v1, c1⟩, f1⟩ := hs4.there (q := 1) (by omega) (by omega)
               obtain ⟨⟨v2, c2⟩, f2⟩ := hs4.there (q := 2) (by omega) (by omega)
               obtain ⟨⟨v3, c3⟩, f3⟩ := hs4.there (q := 3) (by omega) (by omega)
               rw [Nat.add_zero] at c0 f0
               have HX := Lib.hid (HE.out _ hs4)
               have HB4 := Lib.hid (hs4.below4 (.int .u8 (y0 : Int)) (.int .u8 (y1 : Int)) (.int .u8 (y2 : Int)) (.int .u8 (y3 : Int)))
               clear hs4))
          all_goals
            rename_i hHeld
            clear hHeld
            go_wp2
            go_roundw
            case rel => exact ⟨i + 1, rfl, by omega, by omega, HB4.out, HX.out⟩
            case measure => simp [intOf]; omega
        · obtain rfl : M = i := by omega
          go_wp2
          go_end0
          exact ⟨rfl, HCI.out, HB.out⟩
end Go.Proofs.Ythjpaligpojlnaa
