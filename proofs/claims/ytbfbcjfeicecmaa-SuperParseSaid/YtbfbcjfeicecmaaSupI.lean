/-
  Package super: SuperParse's walk.
-/
import Derived.Test.YtbfbcjfeicecmaaSupH
import Derived.Deep.DeepCutAuto
import Derived.Deep.LoopGhost
import Derived.BigRegion
import Derived.Deep.RegionHeld3
import Derived.Test.YtbfbcjfeicecmaaHeldF
namespace Go.Proofs.Ytbfbcjfeicecmaa
open Go.RowKit Go
set_option linter.unusedVariables false
set_option linter.unusedSimpArgs false
/-- what is told of the bytes: the super that they are -/
def SupS (LL : List Nat) : Prop := LL.length = 256 ∧ IsSup LL
def ParseV (LL : List Nat) (px tx e9 : Int) : Prop := (SupS LL → px = (pF LL : Int) ∧ tx = (tF LL : Int) ∧ e9 = 0) ∧ (¬ SupS LL → px = 0 ∧ tx = 0 ∧ e9 = 4)
theorem parse_any (A : Option Addr) (n c : Nat) (LL : List Nat) : ∃ px tx e9 : Int, ParseV LL px tx e9 ∧ ∀ w, BS w w.heap.size A n c LL → Calls Try.prog 14 #[.slice A n c] w (ParseTo w px tx e9) := by
  by_cases hS : SupS LL
  · refine ⟨pF LL, tF LL, 0, ⟨fun _ => ⟨rfl, rfl, rfl⟩, fun h => absurd hS h⟩, fun w hs => ?_⟩
    have hn : n = 256 := by rw [← hs.len]; exact hS.1
    subst hn
    exact (parse_256 A c LL w hs).mono fun e w' h => h.1 hS.2
  · refine ⟨0, 0, 4, ⟨fun h => absurd h hS, fun _ => ⟨rfl, rfl, rfl⟩⟩, fun w hs => ?_⟩
    by_cases hn : n = 256
    · subst hn
      exact (parse_256 A c LL w hs).mono fun e w' h => h.2 fun hI => hS ⟨hs.len, hI⟩
    · exact (parse_short A n c hn w)
def StB (w : World) (m : Nat) (b : Value) (wc : World) : Prop := ∃ L, L.length = m ∧ Own wc w.heap.size b L ∧ Below w.heap.size w wc ∧ ∀ i, L.getD i 0 < 256
theorem set_byte {L : List Nat} (h : ∀ i, L.getD i 0 < 256) {v : Nat} (hv : v < 256) (k i : Nat) : (L.set k v).getD i 0 < 256 := by
  rw [List.getD_eq_getElem?_getD, List.getElem?_set]
  split
  · split
    · exact hv
    · decide
  · rw [← List.getD_eq_getElem?_getD]; exact h i
theorem rep_byte (n i : Nat) : (List.replicate n 0).getD i 0 < 256 := by
  rw [List.getD_eq_getElem?_getD, List.getElem?_replicate]
  split <;> decide
theorem rmayB (p t : Int) : ∃ m : Bool, (m = true ↔ Geo.May p t) ∧ ∀ w, Calls Try.prog 12 #[.agg #[.int .i64 p, .int .i64 t]] w fun e w' => e = .returned (.bool m) ∧ Below w.heap.size w w' := by
  by_cases h : Geo.May p t
  · exact ⟨true, ⟨fun _ => h, fun _ => rfl⟩, fun w => rmay_yes p t h w⟩
  · exact ⟨false, ⟨fun e => (by cases e), fun e => absurd e h⟩, fun w => rmay_no p t h w⟩
def inB (z lo hi : Int) : Bool := decide (lo ≤ z ∧ z < hi)
theorem inB_yes {z lo hi : Int} (h : inB z lo hi = true) : lo ≤ z ∧ z < hi := of_decide_eq_true h
theorem inB_t {z lo hi : Int} (h : lo ≤ z) (h2 : z < hi) : inB z lo hi = true := decide_eq_true ⟨h, h2⟩
theorem inB_f {z lo hi : Int} (h : z < lo ∨ hi ≤ z) : inB z lo hi = false := decide_eq_false (by omega)
def BoolW (b : Bool) (W : World) (r : Value) (wc : World) : Prop := r = .bool b ∧ wc = W
def CutB (w : World) (b : Value) (wc : World) : Prop := ∃ m, m ≤ 256 ∧ StB w m b wc
theorem StB.set {w wc : World} {m g cap : Nat} (h : StB w m (.slice (some ⟨g, 0, none⟩) m cap) wc) {k v : Nat} (hk : k < m) (hv : v < 256) (hg : w.heap.size ≤ g) : StB w m (.slice (some ⟨g, 0, none⟩) m cap) (wc.setCell ⟨g, k, none⟩ (.int .u8 (v : Int))) := by
  obtain ⟨L, hL, hown, hb, hby⟩ := h
  exact ⟨L.set k v, by rw [List.length_set, hL], hown.set (by omega), hb.setCell hg _, set_byte hby hv k⟩
theorem StB.cut {w wc : World} {m g cap k : Nat} (h : StB w m (.slice (some ⟨g, 0, none⟩) m cap) wc) (hk : k ≤ m) : StB w k (.slice (some ⟨g, 0, none⟩) k cap) wc := by
  obtain ⟨L, hL, hown, hb, hby⟩ := h
  exact ⟨L.take k, by rw [List.length_take]; omega, hown.cut (by omega), hb, take_byte hby k⟩
theorem StB.at_ {w wc : World} {m : Nat} {b : Value} (h : StB w m b wc) (hm : 0 < m) : ∃ g cap, b = .slice (some ⟨g, 0, none⟩) m cap ∧ w.heap.size ≤ g ∧ m ≤ cap ∧ cap ≤ 9223372036854775807 ∧ ∀ k, k < m → (∃ u, wc.cell? ⟨g, k, none⟩ = some u) ∧ wc.frozen? ⟨g, k, none⟩ = false := by
  obtain ⟨L, hL, hown, hb, hby⟩ := h
  obtain ⟨g, cap, rfl, h1, h2, h3⟩ := hown.at256 (by omega)
  refine ⟨g, cap, by rw [hL], (hown.lt rfl).1, by omega, h2, fun k hk => h3 k (by omega)⟩
def MoreB (w : World) (A4 : Option Addr) (n4 c4 : Nat) (mv : Value) (W wc : World) : Prop := wc = W ∧ ∃ n l, mv = .slice A4 n c4 ∧ n ≤ 20 ∧ BS w w.heap.size A4 n c4 l
/-- the bytes that are parsed -/
def Fin (w : World) (A : Option Addr) (nn c : Nat) (LL : List Nat) (wc : World) : Prop := Below w.heap.size w wc ∧ BS wc wc.heap.size A nn c LL
theorem fin_of {w wc : World} {L l5 : List Nat} {b : Value} (hown : Own wc w.heap.size b (L ++ l5)) (hb : Below w.heap.size w wc) (h1 : ∀ i, L.getD i 0 < 256) (h2 : ∀ i, l5.getD i 0 < 256) : ∃ A nn c LL, b = .slice A nn c ∧ Fin w A nn c LL wc := by
  obtain ⟨A, c, rfl, hbs⟩ := hown.bs (app_byte h1 h2)
  exact ⟨A, _, c, _, rfl, hb, hbs⟩
def LW (w : World) (gx gw : Nat) (A : Option Addr) (nn c : Nat) (LL : List Nat) (px tx : Int) (bb : Bool) (P T : Nat) (wr : World) : Prop :=
  Below w.heap.size w wr ∧ BS wr gx A nn c LL ∧ gx < gw ∧ w.heap.size ≤ gx ∧ Two wr gx 23 px tx ∧ (∃ x y : Int, Two wr gw 23 x y ∧ (bb = true → x = (pF LL : Int) ∧ y = (tF LL : Int)) ∧ (bb = false → x = 0 ∧ y = 0)) ∧
    (bb = true ↔ SupS LL ∧ (pF LL < P ∨ pF LL = P ∧ tF LL < T))
def Hit (LL : List Nat) (P T : Nat) : Prop := LL.length = 256 ∧ supL P T = LL
theorem hit_of {LL : List Nat} {P T : Nat} (h : SupS LL) (h1 : pF LL = P) (h2 : tF LL = T) : Hit LL P T := ⟨h.1, by rw [← h1, ← h2]; exact h.2.2⟩
theorem sup_of_hit {LL : List Nat} {P T : Nat} (h : Hit LL P T) (hm : Geo.May P T) : SupS LL ∧ pF LL = P ∧ tF LL = T := by
  obtain ⟨h1, h2⟩ := h
  have hp : P < 256 := by unfold Geo.May at hm; omega
  have ht : T < 256 := by unfold Geo.May at hm; omega
  obtain ⟨e1, e2⟩ := supL_pF hp ht
  rw [h2] at e1 e2
  exact ⟨⟨h1, by rw [← h2]; exact isSup_of hm⟩, e1, e2⟩
theorem LW.below {w wr wx : World} {gx gw nn c P T : Nat} {A : Option Addr} {LL : List Nat} {px tx : Int} {bb : Bool} (h : LW w gx gw A nn c LL px tx bb P T wr) (hb : Below wr.heap.size wr wx) : LW w gx gw A nn c LL px tx bb P T wx := by
  obtain ⟨h1, h2, h3, h4, h5, ⟨x, y, h6, h7⟩, h8⟩ := h
  exact ⟨h1.trans (hb.mono h1.size), h2.below (hb.mono (Nat.le_of_lt h5.lt)), h3, h4, h5.after hb, ⟨x, y, h6.after hb, h7⟩, h8⟩
theorem lw_skip {w wr : World} {gx gw nn c P T : Nat} {A : Option Addr} {LL : List Nat} {px tx : Int} {bb : Bool} (h : LW w gx gw A nn c LL px tx bb P T wr) (hn : ¬ Hit LL P T) : LW w gx gw A nn c LL px tx bb P (T + 1) wr := by
  obtain ⟨h1, h2, h3, h4, h5, h6, h8⟩ := h
  refine ⟨h1, h2, h3, h4, h5, h6, h8.trans ⟨fun ⟨a, b⟩ => ⟨a, ?_⟩, fun ⟨a, b⟩ => ⟨a, ?_⟩⟩⟩
  · omega
  · rcases b with b | ⟨b, d⟩
    · exact .inl b
    · have : tF LL ≠ T := fun e => hn (hit_of a b e)
      omega
theorem lw_hit {w wr : World} {gx gw nn c P T : Nat} {A : Option Addr} {LL : List Nat} {px tx : Int} {bb : Bool} (h : LW w gx gw A nn c LL px tx bb P T wr) (hh : Hit LL P T) (hm : Geo.May P T) :
    LW w gx gw A nn c LL px tx true P (T + 1) ((wr.setCell ⟨gw, 0, none⟩ (.int .i64 (P : Int))).setCell ⟨gw, 1, none⟩ (.int .i64 (T : Int))) := by
  obtain ⟨hs, e1, e2⟩ := sup_of_hit hh hm
  obtain ⟨h1, h2, h3, h4, h5, ⟨x, y, h6, h7⟩, h8⟩ := h
  refine ⟨below_set2 h1 (by omega) _ _, h2.keep (fun p hp => ?_), h3, h4, ?_, ⟨P, T, h6.set _ _, fun _ => ⟨by rw [e1], by rw [e2]⟩, fun e => by cases e⟩, fun _ => ⟨hs, by omega⟩, fun _ => rfl⟩
  · have n0 : (⟨gw, 0, none⟩ : Addr) ≠ p := fun e => by subst e; exact absurd hp (by show ¬ gw < gx; omega)
    have n1 : (⟨gw, 1, none⟩ : Addr) ≠ p := fun e => by subst e; exact absurd hp (by show ¬ gw < gx; omega)
    rw [World.cell?_setCell_other _ _ _ _ n1, World.cell?_setCell_other _ _ _ _ n0]
  · exact blk_far (p := ⟨gw, 1, none⟩) (blk_far (p := ⟨gw, 0, none⟩) h5 (by show gx ≠ gw; omega) _) (by show gx ≠ gw; omega) _
theorem lw_next {w wr : World} {gx gw nn c P : Nat} {A : Option Addr} {LL : List Nat} {px tx : Int} {bb : Bool} (h : LW w gx gw A nn c LL px tx bb P 25 wr) : LW w gx gw A nn c LL px tx bb (P + 1) 4 wr := by
  obtain ⟨h1, h2, h3, h4, h5, h6, h8⟩ := h
  refine ⟨h1, h2, h3, h4, h5, h6, h8.trans ⟨fun ⟨a, b⟩ => ⟨a, by omega⟩, fun ⟨a, b⟩ => ⟨a, ?_⟩⟩⟩
  have := a.2.1
  unfold Geo.May at this
  omega
theorem lw_start {w w3 : World} {nn c : Nat} {A : Option Addr} {LL : List Nat} {px tx : Int} (hb : Below w.heap.size w w3) (hx : BS w3 w3.heap.size A nn c LL) :
    LW w w3.heap.size (w3.heap.size + 1) A nn c LL px tx false 1 4 ((w3.alloc (.cells #[.int .i64 px, .int .i64 tx] 23)).alloc (.cells #[.int .i64 0, .int .i64 0] 23)) := by
  have e1 : (w3.alloc (.cells #[.int .i64 px, .int .i64 tx] 23)).heap.size = w3.heap.size + 1 := by simp
  have k1 : Below w3.heap.size w3 (w3.alloc (.cells #[.int .i64 px, .int .i64 tx] 23)) := (Below.refl _ _).alloc (Nat.le_refl _) _
  have k2 : After (w3.alloc (.cells #[.int .i64 px, .int .i64 tx] 23)) ((w3.alloc (.cells #[.int .i64 px, .int .i64 tx] 23)).alloc (.cells #[.int .i64 0, .int .i64 0] 23)) := (Below.refl _ _).alloc (Nat.le_refl _) _
  have k3 := Two.new (w3.alloc (.cells #[.int .i64 px, .int .i64 tx] 23)) 23 0 0
  rw [e1] at k3
  have k9 := hb.size
  refine ⟨(hb.alloc hb.size _).alloc (by rw [e1]; omega) _, hx.below (k1.alloc (by rw [e1]; omega) _), by omega, hb.size, (Two.new w3 _ px tx).after k2, ⟨0, 0, k3, (fun e => by cases e), fun _ => ⟨rfl, rfl⟩⟩, (fun e => by cases e), fun ⟨a, b⟩ => ?_⟩
  have := a.2.1
  unfold Geo.May at this
  omega
def OutR (w : World) (gx gw : Nat) (A : Option Addr) (nn c : Nat) (LL : List Nat) (px tx : Int) (gk : Nat) (isv Pv : Value) (wr : World) : Prop :=
  ∃ (P : Nat) (bb : Bool), Pv = .int .i64 (P : Int) ∧ 1 ≤ P ∧ P + gk = 65 ∧ isv = .bool bb ∧ LW w gx gw A nn c LL px tx bb P 4 wr
def InR (w : World) (gx gw : Nat) (A : Option Addr) (nn c : Nat) (LL : List Nat) (px tx : Int) (P gk : Nat) (isv Tv : Value) (wr : World) : Prop :=
  ∃ (T : Nat) (bb : Bool), Tv = .int .i64 (T : Int) ∧ 4 ≤ T ∧ T + gk = 25 ∧ isv = .bool bb ∧ LW w gx gw A nn c LL px tx bb P T wr
def HitR (W : World) (LL : List Nat) (P T : Nat) (r : Value) (wx : World) : Prop := ∃ rb : Bool, r = .bool rb ∧ (rb = true ↔ Hit LL P T) ∧ Below W.heap.size W wx
def StC (w : World) (b : Value) (wc : World) : Prop := StB w 256 b wc
set_option maxRecDepth 100000 in
set_option maxHeartbeats 4000000 in
theorem superParse_any (p t at_ cut : Int) (v : Nat) (hv : v < 256) (A4 : Option Addr) (n4 c4 : Nat) (l4 : List Nat) (w : World) (hs4 : BS w w.heap.size A4 n4 c4 l4) (h4n : A4 = none → c4 = 0) :
    Calls Try.prog 4 #[.agg #[.int .i64 p, .int .i64 t], .int .i64 at_, .int .u8 (v : Int), .int .i64 cut, .slice A4 n4 c4] w fun e w' => e = .returned (.bool true) ∧ Below w.heap.size w w' := by
  have hb : Below w.heap.size w (w.alloc (.cells #[.int .i64 p, .int .i64 t] 23)) := (Below.refl _ _).alloc (Nat.le_refl _) _
  have ht := Two.new w 23 p t
  have hsz : (w.alloc (.cells #[.int .i64 p, .int .i64 t] 23)).heap.size = w.heap.size + 1 := by simp
  have hb2 : Below w.heap.size w ((w.alloc (.cells #[.int .i64 p, .int .i64 t] 23)).alloc (.cells (zeros 256) 5)) := hb.alloc (by rw [hsz]; omega) _
  have ho := zeros_own 256 (by omega) (w.alloc (.cells #[.int .i64 p, .int .i64 t] 23))
  have ht2 := ht.after (Below.alloc (Below.refl _ _) (Nat.le_refl _) (.cells (zeros 256) 5))
  have hmk0 := make_bytes 256 (by omega) (w.alloc (.cells #[.int .i64 p, .int .i64 t] 23))
  rw [hsz] at ho hmk0
  have hmk : (Instr.makeSlice 24 (.int .i64 256) (.int .i64 256)).run Try.prog (w.alloc (.cells #[.int .i64 p, .int .i64 t] 23)) = .ok (.slice (some ⟨w.heap.size + 1, 0, none⟩) 256 256) ((w.alloc (.cells #[.int .i64 p, .int .i64 t] 23)).alloc (.cells (zeros 256) 5)) := hmk0
  have HB := Lib.hid hb2
  have HT := Lib.hid ht2
  have HO := Lib.hid (ho.base (show w.heap.size ≤ w.heap.size + 1 by omega))
  have HS4 := Lib.hid hs4
  have H4N := Lib.hid h4n
  have h4c := hs4.cap
  have HI : Hid ((Try.prog.info? 23).map (·.size) = some (#[Value.int .i64 p, Value.int .i64 t] : Array Value).size) := Lib.hid (info_geo2 p t)
  clear hb ht hs4 h4n hb2 ho ht2 hsz hmk0
  go_enter Try.func4, Try.ntmps4
  go_upto_region 2 with (fail)
  clear hmk
  generalize zeros 256 = Z at *
  generalize (w.alloc (.cells #[.int .i64 p, .int .i64 t] 23)).alloc (.cells Z 5) = W0 at *
  obtain ⟨m, hm, hmay⟩ := rmayB p t
  have HMAY := Lib.hid hmay
  have HM := Lib.hid hm
  clear hm hmay
  have c0 := HT.out.fst
  have c1 := HT.out.snd
  go_upto_if 21 with (fail)
  refine (HMAY.out _).mono ?_
  rintro e w1 ⟨rfl, hb1⟩
  have HT1 := Lib.hid (HT.out.after hb1)
  have HB1 := Lib.hid (HB.out.trans (hb1.mono HB.out.size))
  have HO1 := Lib.hid (HO.out.below hb1)
  clear c0 c1 hb1
  go_upto_if 21 with (fail)
  go_cut [11] (fun b wc => StC w b wc)
  case first =>
    have c0 := HT1.out.fst
    have c1 := HT1.out.snd
    cases m
    · have HF : Hid (StC w (.slice (some ⟨w.heap.size + 1, 0, none⟩) 256 256) w1) := Lib.hid ⟨_, List.length_replicate, HO1.out, HB1.out, rep_byte 256⟩
      go_wp2
      go_meet
      case rel => exact HF.out
    · have hmm := HM.out.mp rfl
      obtain ⟨p', rfl⟩ : ∃ k : Nat, p = (k : Int) := ⟨p.toNat, by unfold Geo.May at hmm; omega⟩
      obtain ⟨t', rfl⟩ : ∃ k : Nat, t = (k : Int) := ⟨t.toNat, by unfold Geo.May at hmm; omega⟩
      have hp : p' < 256 := by unfold Geo.May at hmm; omega
      have ht : t' < 256 := by unfold Geo.May at hmm; omega
      clear hmm
      go_wp2_with fail
      refine (rbytesO p' t' hp ht _).mono ?_
      rintro e w2 ⟨v9, rfl, hown2, hb2⟩
      have HF : Hid (StC w v9 w2) := Lib.hid ⟨_, supL_len p' t', hown2.base HB1.out.size, HB1.out.trans (hb2.mono HB1.out.size), supL_byte p' t'⟩
      clear hown2 hb2
      go_wp2
      go_meet
      case rel => exact HF.out
  case rest =>
    clear HT HT1 HO HO1 HB HB1 HMAY HM HI
    obtain ⟨g, cap, rfl, hgw, hcap1, hcap2, hcell⟩ := StB.at_ hcut (by omega)
    have HS := Lib.hid hcut
    have HCELL := Lib.hid hcell
    clear hcut hcell
    go_upto_region 4 with (fail)
    go_cut [29] (fun r wx => BoolW (inB at_ 0 256) wc r wx)
    case first =>
      rcases (by omega : at_ < 0 ∨ (0 ≤ at_ ∧ at_ < 256) ∨ (0 ≤ at_ ∧ 256 ≤ at_)) with h | ⟨h, h2⟩ | ⟨h, h2⟩
      · have HF : Hid (BoolW (inB at_ 0 256) wc (.bool false) wc) := Lib.hid ⟨by rw [inB_f (.inl h)], rfl⟩
        go_wp2
        go_meet
        case rel => exact HF.out
      · have HF : Hid (BoolW (inB at_ 0 256) wc (.bool true) wc) := Lib.hid ⟨by rw [inB_t h h2], rfl⟩
        go_wp2
        go_meet
        case rel => exact HF.out
      · have HF : Hid (BoolW (inB at_ 0 256) wc (.bool false) wc) := Lib.hid ⟨by rw [inB_f (.inr h2)], rfl⟩
        go_wp2
        go_meet
        case rel =>
          first | exact HF.out | (rw [decide_eq_false (show ¬ at_ < 256 by omega)]; exact HF.out)
    case rest =>
      obtain ⟨rfl, rfl⟩ := hcut
      generalize hq : inB at_ 0 256 = q at *
      have HQ := Lib.hid hq
      clear hq
      go_upto_if 29 with (fail)
      go_cut [11] (fun b wx => StC w b wx)
      case first =>
        cases q
        · have HF : Hid (StC w (.slice (some ⟨g, 0, none⟩) 256 cap) wc) := HS
          go_wp2
          go_meet
          case rel => exact HF.out
        · obtain ⟨h1, h2⟩ := inB_yes HQ.out
          obtain ⟨k, rfl⟩ : ∃ k : Nat, at_ = (k : Int) := ⟨at_.toNat, by omega⟩
          have hk : k < 256 := by omega
          obtain ⟨⟨old, f1⟩, f2⟩ := HCELL.out k hk
          have HF : Hid (StC w (.slice (some ⟨g, 0, none⟩) 256 cap) (wc.setCell ⟨g, k, none⟩ (.int .u8 (v : Int)))) := Lib.hid (HS.out.set hk hv hgw)
          go_wp2
          go_meet
          case rel => exact HF.out
      case rest =>
        clear HCELL HS HQ hgw hcap1 hcap2
        obtain ⟨g, cap, rfl, hgw, hcap1, hcap2, hcell⟩ := StB.at_ hcut (by omega)
        have HS := Lib.hid hcut
        clear hcut hcell
        go_upto_region 6 with (fail)
        go_cut [39] (fun r wx => BoolW (inB cut 1 257) wc r wx)
        case first =>
          rcases (by omega : cut ≤ 0 ∨ (0 < cut ∧ cut ≤ 256) ∨ (0 < cut ∧ 256 < cut)) with h | ⟨h, h2⟩ | ⟨h, h2⟩
          · have HF : Hid (BoolW (inB cut 1 257) wc (.bool false) wc) := Lib.hid ⟨by rw [inB_f (.inl (by omega))], rfl⟩
            go_wp2
            go_meet
            case rel => exact HF.out
          · have HF : Hid (BoolW (inB cut 1 257) wc (.bool true) wc) := Lib.hid ⟨by rw [inB_t (by omega) (by omega)], rfl⟩
            go_wp2
            go_meet
            case rel => exact HF.out
          · have HF : Hid (BoolW (inB cut 1 257) wc (.bool false) wc) := Lib.hid ⟨by rw [inB_f (.inr (by omega))], rfl⟩
            go_wp2
            go_meet
            case rel =>
              first | exact HF.out | (rw [decide_eq_false (show ¬ cut ≤ 256 by omega)]; exact HF.out)
        case rest =>
          obtain ⟨rfl, rfl⟩ := hcut
          generalize hq : inB cut 1 257 = q at *
          have HQ := Lib.hid hq
          clear hq
          go_upto_if 39 with (fail)
          go_cut [11] (fun b wx => CutB w b wx)
          case first =>
            cases q
            · have HF : Hid (CutB w (.slice (some ⟨g, 0, none⟩) 256 cap) wc) := Lib.hid ⟨256, Nat.le_refl _, HS.out⟩
              go_wp2
              go_meet
              case rel => exact HF.out
            · obtain ⟨h1, h2⟩ := inB_yes HQ.out
              obtain ⟨cn, rfl⟩ : ∃ k : Nat, cut = (k : Int) := ⟨cut.toNat, by omega⟩
              obtain ⟨k, hk⟩ : ∃ k : Nat, (256 : Int) - (cn : Int) = (k : Int) := ⟨256 - cn, by omega⟩
              have hk1 : k ≤ 256 := by omega
              have hk2 : k ≤ cap := by omega
              have HF : Hid (CutB w (.slice (some ⟨g, 0, none⟩) k cap) wc) := Lib.hid ⟨k, hk1, HS.out.cut hk1⟩
              have h0 : 0 < cn := by omega
              go_wp2
              go_meet
              case rel => exact HF.out
          case rest =>
            clear HS HQ hgw hcap1 hcap2
            have HS := Lib.hid hcut
            clear hcut
            go_upto_if 46 with (fail)
            go_cut [4] (fun mv wx => MoreB w A4 n4 c4 mv wc wx)
            case first =>
              by_cases h20 : n4 ≤ 20
              · have HF : Hid (MoreB w A4 n4 c4 (.slice A4 n4 c4) wc wc) := Lib.hid ⟨rfl, n4, l4, rfl, h20, HS4.out⟩
                go_wp2
                go_meet
                case rel => exact HF.out
              · have h21 : 20 ≤ n4 := by omega
                have HF : Hid (MoreB w A4 n4 c4 (.slice A4 20 c4) wc wc) := Lib.hid ⟨rfl, 20, l4.take 20, rfl, Nat.le_refl _, HS4.out.take h21⟩
                go_wp2
                go_meet
                case rel => exact HF.out
            case rest =>
              obtain ⟨rfl, n5, l5, rfl, hn5, hs5⟩ := hcut
              have HS5 := Lib.hid hs5
              clear hs5
              obtain ⟨m9, hm9, L, hL, hown, hbw, hby⟩ := HS.out
              have hbs5 := HS5.out.below hbw
              have HBY := Lib.hid hby
              have HBW := Lib.hid hbw
              have hL2 : L.length ≤ 256 := by omega
              clear hby hbw hL
              go_wp2_with (refine wp_apps _ rfl _ _ rfl w.heap.size u11 L rfl hown w.heap.size A4 n5 c4 l5 rfl hbs5 H4N.out (by omega) HBW.out.size ?_; intro b w2 hown2 hb2)
              obtain ⟨A, nn, c, LL, rfl, hfin⟩ := fin_of hown2 (HBW.out.trans hb2) HBY.out HS5.out.byte
              have HFIN := Lib.hid hfin
              clear hown hbs5 hown2 hb2 hfin HS HBY HBW HS5 HS4 hm9 hL2
              obtain ⟨px, tx, e9, hpv, hparse⟩ := parse_any A nn c LL
              have HPV := Lib.hid hpv
              clear hpv
              go_wp2_with fail
              refine (hparse _ HFIN.out.2).mono ?_
              rintro e w3 ⟨rfl, hb3⟩
              have HB3 := Lib.hid (HFIN.out.1.trans (hb3.mono HFIN.out.1.size))
              have HX3 := Lib.hid ((HFIN.out.2.below hb3).more hb3.size)
              clear hb3 hparse HFIN
              go_upto_region 14 with (fail)
              have hlw := lw_start (px := px) (tx := tx) HB3.out HX3.out
              have HLW := Lib.hid hlw
              have hlt3 : w.heap.size ≤ w3.heap.size := HB3.out.size
              clear hlw HB3 HX3
              generalize (w3.alloc (.cells #[.int .i64 px, .int .i64 tx] 23)).alloc (.cells #[.int .i64 0, .int .i64 0] 23) = W9 at *
              generalize hgw9 : w3.heap.size + 1 = gw at *
              generalize w3.heap.size = gx at *
              clear hgw9
              go_wp2
              go_loopg [14, 16] 64 (fun gk isv Pv wr => OutR w gx gw A nn c LL px tx gk isv Pv wr)
              case atStart => exact ⟨1, false, rfl, by omega, by omega, rfl, HLW.out⟩
              case round =>
                clear HLW
                obtain ⟨P, bb, rfl, hP1, hPk, rfl, hlw⟩ := hrel
                have HLW := Lib.hid hlw
                clear hlw
                by_cases hlt : P ≤ 64
                · have hlti : (P : Int) ≤ 64 := by omega
                  go_wp2
                  go_loopg [14, 17] 21 (fun gk2 isv Tv wr => InR w gx gw A nn c LL px tx P gk2 isv Tv wr)
                  case atStart => exact ⟨4, bb, rfl, by omega, by omega, rfl, HLW.out⟩
                  case round =>
                    clear HLW
                    obtain ⟨T, b2, rfl, hT1, hTk, rfl, hlw⟩ := hrel
                    have HLW := Lib.hid hlw
                    clear hlw
                    by_cases hlt2 : T ≤ 24
                    · have hmay : Geo.May (P : Int) (T : Int) := by unfold Geo.May; omega
                      have HMAY := Lib.hid hmay
                      have hba : Below wr.heap.size wr (wr.alloc (.cells #[.int .i64 (P : Int), .int .i64 (T : Int)] 23)) := (Below.refl _ _).alloc (Nat.le_refl _) _
                      have HTO := Lib.hid (Two.new wr 23 (P : Int) (T : Int))
                      have HLWA := Lib.hid (HLW.out.below hba)
                      clear hba HLW hmay
                      go_upto_region 21 with (fail)
                      generalize wr.alloc (.cells #[.int .i64 (P : Int), .int .i64 (T : Int)] 23) = W5 at *
                      go_cut [95] (fun r wx => HitR W5 LL P T r wx)
                      case first =>
                        by_cases hn : nn = 256
                        · have hx := HLWA.out.2.1
                          have hgx9 := HLWA.out.2.2.2.2.1.lt
                          have HBYL := Lib.hid hx.byte
                          have hlen := hx.len
                          have HLEN := Lib.hid (hlen.trans hn)
                          subst hn
                          obtain ⟨ba, oa, rfl, hbB, hcell⟩ := hx.at_ (by omega)
                          have k10 := hcell 10 (by omega)
                          have k12 := hcell 12 (by omega)
                          have y10 := hx.byte 10
                          have y12 := hx.byte 12
                          have HX := Lib.hid (hx.more (Nat.le_of_lt hgx9))
                          have H10 : Hid (Hit LL P T → LL.getD 10 0 = P) := Lib.hid fun h => by rw [← h.2, supL_at (by omega) (by omega) _ (by omega)]; rfl
                          have H12 : Hid (Hit LL P T → LL.getD 12 0 = T) := Lib.hid fun h => by rw [← h.2, supL_at (by omega) (by omega) _ (by omega)]; rfl
                          generalize LL.getD 10 0 = x10 at *
                          generalize LL.getD 12 0 = x12 at *
                          clear hx hcell hlen
                          by_cases h10 : x10 = P
                          · by_cases h12 : x12 = T
                            · subst h10 h12
                              clear H10 H12
                              have KS : Hid (∀ w', Below W5.heap.size W5 w' → (w'.cell? ⟨ba, oa + 10, none⟩ = some (.int .u8 (x10 : Int)) ∧ w'.cell? ⟨ba, oa + 12, none⟩ = some (.int .u8 (x12 : Int)) ∧ w'.cell? ⟨wr.heap.size, 0, none⟩ = some (.int .i64 (x10 : Int)) ∧ w'.cell? ⟨wr.heap.size, 1, none⟩ = some (.int .i64 (x12 : Int)) ∧ (convert 24 9 (.slice (some ⟨ba, oa, none⟩) 256 c)).run Try.prog w' = .ok (.string (str LL)) w' ∧ Below W5.heap.size W5 w')) :=
                                Lib.hid fun w' hw => ⟨(hw.cell (p := ⟨ba, oa + 10, none⟩) (Nat.lt_trans hbB hgx9)).trans k10, (hw.cell (p := ⟨ba, oa + 12, none⟩) (Nat.lt_trans hbB hgx9)).trans k12, (HTO.out.after hw).fst, (HTO.out.after hw).snd, conv_at ((HX.out.below hw).more hw.size), hw⟩
                              have KN : Hid (∀ w' w'', (w'.cell? ⟨ba, oa + 10, none⟩ = some (.int .u8 (x10 : Int)) ∧ w'.cell? ⟨ba, oa + 12, none⟩ = some (.int .u8 (x12 : Int)) ∧ w'.cell? ⟨wr.heap.size, 0, none⟩ = some (.int .i64 (x10 : Int)) ∧ w'.cell? ⟨wr.heap.size, 1, none⟩ = some (.int .i64 (x12 : Int)) ∧ (convert 24 9 (.slice (some ⟨ba, oa, none⟩) 256 c)).run Try.prog w' = .ok (.string (str LL)) w' ∧ Below W5.heap.size W5 w') → Below w'.heap.size w' w'' → (w''.cell? ⟨ba, oa + 10, none⟩ = some (.int .u8 (x10 : Int)) ∧ w''.cell? ⟨ba, oa + 12, none⟩ = some (.int .u8 (x12 : Int)) ∧ w''.cell? ⟨wr.heap.size, 0, none⟩ = some (.int .i64 (x10 : Int)) ∧ w''.cell? ⟨wr.heap.size, 1, none⟩ = some (.int .i64 (x12 : Int)) ∧ (convert 24 9 (.slice (some ⟨ba, oa, none⟩) 256 c)).run Try.prog w'' = .ok (.string (str LL)) w'' ∧ Below W5.heap.size W5 w'')) := Lib.hid fun w' w'' h hb => KS.out w'' (h.2.2.2.2.2.trans (hb.mono h.2.2.2.2.2.size))
                              generalize hsLL : str LL = sLL at *
                              have HSL := Lib.hid hsLL
                              clear hsLL
                              have KR := Lib.hid (fun W => rbytes_any x10 x12 (by omega) (by omega) W)
                              obtain ⟨rb, hrb⟩ : ∃ rb : Bool, (sLL.toList == (str (supL x10 x12)).toList) = rb := ⟨_, rfl⟩
                              have HRB : Hid (rb = true ↔ Hit LL x10 x12) := Lib.hid (by
                                have hs := sameB_iff HBYL.out (supL_byte x10 x12)
                                unfold sameB at hs
                                rw [HSL.out, hrb] at hs
                                exact hs.trans ⟨fun e => ⟨HLEN.out, e.symm⟩, fun h => h.2.symm⟩)
                              generalize hs2 : str (supL x10 x12) = s2 at *
                              have HS2 := Lib.hid hs2
                              clear hs2
                              have w10 : IntKind.u8.wrap (x10 : Int) = (x10 : Int) := IntWalk.u8_in _ (by omega)
                              have w12 : IntKind.u8.wrap (x12 : Int) = (x12 : Int) := IntWalk.u8_in _ (by omega)
                              refine wp_region_F (S := (fun w' => w'.cell? ⟨ba, oa + 10, none⟩ = some (.int .u8 (x10 : Int)) ∧ w'.cell? ⟨ba, oa + 12, none⟩ = some (.int .u8 (x12 : Int)) ∧ w'.cell? ⟨wr.heap.size, 0, none⟩ = some (.int .i64 (x10 : Int)) ∧ w'.cell? ⟨wr.heap.size, 1, none⟩ = some (.int .i64 (x12 : Int)) ∧ (convert 24 9 (.slice (some ⟨ba, oa, none⟩) 256 c)).run Try.prog w' = .ok (.string sLL) w' ∧ Below W5.heap.size W5 w')) [] (by kernel_rfl) (KS.out _ (Below.refl _ _).drew) (fun hHeld => ?_)
                              refine wpAnyF_take (i := 0) (oi := _) (v := ?_) rfl (by kernel_rfl) (by kernel_rfl) (by kernel_rfl) (by kernel_rfl) (fun _ _ _ h => h) (Or.inl ⟨by rfl, ?_⟩) (by assumption) ?_
                              rotate_left 1
                              · intro w hSw
                                (try dsimp only at hSw)
                                (first | (go_simp; done) | (go_simp; with_reducible rfl))
                              (try simp only [Act.put, List.getElem_toArray, List.getElem_cons_succ, List.getElem_cons_zero, List.setIfInBounds_toArray, List.set_cons_zero, List.set_cons_succ])
                              refine wpAnyF_take (i := 1) (oi := _) (v := ?_) rfl (by kernel_rfl) (by kernel_rfl) (by kernel_rfl) (by kernel_rfl) (fun _ _ _ h => h) (Or.inl ⟨by rfl, ?_⟩) (by assumption) ?_
                              rotate_left 1
                              · intro w hSw
                                (try dsimp only at hSw)
                                (first | (go_simp; done) | (go_simp; with_reducible rfl))
                              (try simp only [Act.put, List.getElem_toArray, List.getElem_cons_succ, List.getElem_cons_zero, List.setIfInBounds_toArray, List.set_cons_zero, List.set_cons_succ])
                              refine wpAnyF_take (i := 2) (oi := _) (v := ?_) rfl (by kernel_rfl) (by kernel_rfl) (by kernel_rfl) (by kernel_rfl) (fun _ _ _ h => h) (Or.inl ⟨by rfl, ?_⟩) (by assumption) ?_
                              rotate_left 1
                              · intro w hSw
                                (try dsimp only at hSw)
                                (first | (go_simp; done) | (go_simp; with_reducible rfl))
                              (try simp only [Act.put, List.getElem_toArray, List.getElem_cons_succ, List.getElem_cons_zero, List.setIfInBounds_toArray, List.set_cons_zero, List.set_cons_succ])
                              refine wpAnyF_take (i := 3) (oi := _) (v := ?_) rfl (by kernel_rfl) (by kernel_rfl) (by kernel_rfl) (by kernel_rfl) (fun _ _ _ h => h) (Or.inl ⟨by rfl, ?_⟩) (by assumption) ?_
                              rotate_left 1
                              · intro w hSw
                                (try dsimp only at hSw)
                                (first | (go_simp; done) | (go_simp; with_reducible rfl))
                              (try simp only [Act.put, List.getElem_toArray, List.getElem_cons_succ, List.getElem_cons_zero, List.setIfInBounds_toArray, List.set_cons_zero, List.set_cons_succ])
                              refine wpAnyF_take (i := 4) (oi := _) (v := ?_) rfl (by kernel_rfl) (by kernel_rfl) (by kernel_rfl) (by kernel_rfl) (fun _ _ _ h => h) (Or.inl ⟨by rfl, ?_⟩) (by assumption) ?_
                              rotate_left 1
                              · intro w hSw
                                (try dsimp only at hSw)
                                (first | (go_simp; done) | (go_simp; with_reducible rfl))
                              (try simp only [Act.put, List.getElem_toArray, List.getElem_cons_succ, List.getElem_cons_zero, List.setIfInBounds_toArray, List.set_cons_zero, List.set_cons_succ])
                              refine wpAnyF_take (i := 5) (oi := _) (v := ?_) rfl (by kernel_rfl) (by kernel_rfl) (by kernel_rfl) (by kernel_rfl) (fun _ _ _ h => h) (Or.inl ⟨by rfl, ?_⟩) (by assumption) ?_
                              rotate_left 1
                              · intro w hSw
                                (try dsimp only at hSw)
                                (first | (go_simp; done) | (go_simp; with_reducible rfl))
                              (try simp only [Act.put, List.getElem_toArray, List.getElem_cons_succ, List.getElem_cons_zero, List.setIfInBounds_toArray, List.set_cons_zero, List.set_cons_succ])
                              refine wpAnyF_take (i := 6) (oi := _) (v := ?_) rfl (by kernel_rfl) (by kernel_rfl) (by kernel_rfl) (by kernel_rfl) (fun _ _ _ h => h) (Or.inl ⟨by rfl, ?_⟩) (by assumption) ?_
                              rotate_left 1
                              · intro w hSw
                                (try dsimp only at hSw)
                                (first | (go_simp; done) | (go_simp; with_reducible rfl))
                              (try simp only [Act.put, List.getElem_toArray, List.getElem_cons_succ, List.getElem_cons_zero, List.setIfInBounds_toArray, List.set_cons_zero, List.set_cons_succ])
                              refine wpAnyF_take (i := 7) (oi := _) (v := ?_) rfl (by kernel_rfl) (by kernel_rfl) (by kernel_rfl) (by kernel_rfl) (fun _ _ _ h => h) (Or.inl ⟨by rfl, ?_⟩) (by assumption) ?_
                              rotate_left 1
                              · intro w hSw
                                (try dsimp only at hSw)
                                (first | (go_simp; done) | (go_simp; with_reducible rfl))
                              (try simp only [Act.put, List.getElem_toArray, List.getElem_cons_succ, List.getElem_cons_zero, List.setIfInBounds_toArray, List.set_cons_zero, List.set_cons_succ])
                              refine wpAnyF_take (i := 8) (oi := _) (v := ?_) rfl (by kernel_rfl) (by kernel_rfl) (by kernel_rfl) (by kernel_rfl) (fun _ _ _ h => h) (Or.inl ⟨by rfl, ?_⟩) (by assumption) ?_
                              rotate_left 1
                              · intro w hSw
                                (try dsimp only at hSw)
                                (first | (go_simp; done) | (go_simp; with_reducible rfl))
                              (try simp only [Act.put, List.getElem_toArray, List.getElem_cons_succ, List.getElem_cons_zero, List.setIfInBounds_toArray, List.set_cons_zero, List.set_cons_succ])
                              refine wpAnyF_take (i := 9) (oi := _) (v := ?_) rfl (by kernel_rfl) (by kernel_rfl) (by kernel_rfl) (by kernel_rfl) (fun _ _ _ h => h) (Or.inl ⟨by rfl, ?_⟩) (by assumption) ?_
                              rotate_left 1
                              · intro w hSw
                                (try dsimp only at hSw)
                                (first | (go_simp; done) | (go_simp; with_reducible rfl))
                              (try simp only [Act.put, List.getElem_toArray, List.getElem_cons_succ, List.getElem_cons_zero, List.setIfInBounds_toArray, List.set_cons_zero, List.set_cons_succ])
                              refine wpAnyF_take (i := 10) (oi := _) (v := ?_) rfl (by kernel_rfl) (by kernel_rfl) (by kernel_rfl) (by kernel_rfl) (fun _ _ _ h => h) (Or.inl ⟨by rfl, ?_⟩) (by assumption) ?_
                              rotate_left 1
                              · intro w hSw
                                (try dsimp only at hSw)
                                (first | (go_simp; done) | (go_simp; with_reducible rfl))
                              (try simp only [Act.put, List.getElem_toArray, List.getElem_cons_succ, List.getElem_cons_zero, List.setIfInBounds_toArray, List.set_cons_zero, List.set_cons_succ])
                              refine wpAnyF_take (i := 11) (oi := _) (v := ?_) rfl (by kernel_rfl) (by kernel_rfl) (by kernel_rfl) (by kernel_rfl) (fun _ _ _ h => h) (Or.inl ⟨by rfl, ?_⟩) (by assumption) ?_
                              rotate_left 1
                              · intro w hSw
                                (try dsimp only at hSw)
                                (first | (go_simp; done) | (go_simp; with_reducible rfl))
                              (try simp only [Act.put, List.getElem_toArray, List.getElem_cons_succ, List.getElem_cons_zero, List.setIfInBounds_toArray, List.set_cons_zero, List.set_cons_succ])
                              refine wpAnyF_take (i := 12) (oi := _) (v := ?_) rfl (by kernel_rfl) (by kernel_rfl) (by kernel_rfl) (by kernel_rfl) (fun _ _ _ h => h) (Or.inl ⟨by rfl, ?_⟩) (by assumption) ?_
                              rotate_left 1
                              · intro w hSw
                                (try dsimp only at hSw)
                                (first | (go_simp; done) | (go_simp; with_reducible rfl))
                              (try simp only [Act.put, List.getElem_toArray, List.getElem_cons_succ, List.getElem_cons_zero, List.setIfInBounds_toArray, List.set_cons_zero, List.set_cons_succ])
                              refine wpAnyF_take (i := 13) (oi := _) (v := ?_) rfl (by kernel_rfl) (by kernel_rfl) (by kernel_rfl) (by kernel_rfl) (fun _ _ _ h => h) (Or.inl ⟨by rfl, ?_⟩) (by assumption) ?_
                              rotate_left 1
                              · intro w hSw
                                (try dsimp only at hSw)
                                (first | (go_simp; done) | (go_simp; with_reducible rfl))
                              (try simp only [Act.put, List.getElem_toArray, List.getElem_cons_succ, List.getElem_cons_zero, List.setIfInBounds_toArray, List.set_cons_zero, List.set_cons_succ])
                              refine wpAnyF_take (i := 14) (oi := _) (v := ?_) rfl (by kernel_rfl) (by kernel_rfl) (by kernel_rfl) (by kernel_rfl) (fun _ _ _ h => h) (Or.inl ⟨by rfl, ?_⟩) (by assumption) ?_
                              rotate_left 1
                              · intro w hSw
                                (try dsimp only at hSw)
                                (first | (go_simp; done) | (go_simp; with_reducible rfl))
                              (try simp only [Act.put, List.getElem_toArray, List.getElem_cons_succ, List.getElem_cons_zero, List.setIfInBounds_toArray, List.set_cons_zero, List.set_cons_succ])
                              refine wpAnyF_take (i := 15) (oi := _) (v := ?_) rfl (by kernel_rfl) (by kernel_rfl) (by kernel_rfl) (by kernel_rfl) (fun _ _ _ h => h) (Or.inl ⟨by rfl, ?_⟩) (by assumption) ?_
                              rotate_left 1
                              · intro w hSw
                                (try dsimp only at hSw)
                                (first | (go_simp; done) | (go_simp; with_reducible rfl))
                              (try simp only [Act.put, List.getElem_toArray, List.getElem_cons_succ, List.getElem_cons_zero, List.setIfInBounds_toArray, List.set_cons_zero, List.set_cons_succ])
                              refine wpAnyF_take (i := 16) (oi := _) (v := ?_) rfl (by kernel_rfl) (by kernel_rfl) (by kernel_rfl) (by kernel_rfl) (fun _ _ _ h => h) (Or.inl ⟨by rfl, ?_⟩) (by assumption) ?_
                              rotate_left 1
                              · intro w hSw
                                (try dsimp only at hSw)
                                (first | (go_simp; done) | (go_simp; with_reducible rfl))
                              (try simp only [Act.put, List.getElem_toArray, List.getElem_cons_succ, List.getElem_cons_zero, List.setIfInBounds_toArray, List.set_cons_zero, List.set_cons_succ])
                              refine wpAnyF_take (i := 17) (oi := _) (v := ?_) rfl (by kernel_rfl) (by kernel_rfl) (by kernel_rfl) (by kernel_rfl) (fun _ _ _ h => h) (Or.inl ⟨by rfl, ?_⟩) (by assumption) ?_
                              rotate_left 1
                              · intro w hSw
                                (try dsimp only at hSw)
                                (first | (go_simp; done) | (go_simp; with_reducible rfl))
                              (try simp only [Act.put, List.getElem_toArray, List.getElem_cons_succ, List.getElem_cons_zero, List.setIfInBounds_toArray, List.set_cons_zero, List.set_cons_succ])
                              refine wpAnyF_take (i := 18) (oi := _) (v := ?_) rfl (by kernel_rfl) (by kernel_rfl) (by kernel_rfl) (by kernel_rfl) (fun _ _ _ h => h) (Or.inl ⟨by rfl, ?_⟩) (by assumption) ?_
                              rotate_left 1
                              · intro w hSw
                                (try dsimp only at hSw)
                                (first | (go_simp; done) | (go_simp; with_reducible rfl))
                              (try simp only [Act.put, List.getElem_toArray, List.getElem_cons_succ, List.getElem_cons_zero, List.setIfInBounds_toArray, List.set_cons_zero, List.set_cons_succ])
                              refine wpAnyF_take (i := 19) (oi := _) (v := ?_) rfl (by kernel_rfl) (by kernel_rfl) (by kernel_rfl) (by kernel_rfl) (fun _ _ _ h => h) (Or.inl ⟨by rfl, ?_⟩) (by assumption) ?_
                              rotate_left 1
                              · intro w hSw
                                (try dsimp only at hSw)
                                (first | (go_simp; done) | (go_simp; with_reducible rfl))
                              (try simp only [Act.put, List.getElem_toArray, List.getElem_cons_succ, List.getElem_cons_zero, List.setIfInBounds_toArray, List.set_cons_zero, List.set_cons_succ])
                              refine wpAnyF_take (i := 20) (oi := _) (v := ?_) rfl (by kernel_rfl) (by kernel_rfl) (by kernel_rfl) (by kernel_rfl) (fun _ _ _ h => h) (Or.inl ⟨by rfl, ?_⟩) (by assumption) ?_
                              rotate_left 1
                              · intro w hSw
                                (try dsimp only at hSw)
                                (first | (go_simp; done) | (go_simp; with_reducible rfl))
                              (try simp only [Act.put, List.getElem_toArray, List.getElem_cons_succ, List.getElem_cons_zero, List.setIfInBounds_toArray, List.set_cons_zero, List.set_cons_succ])
                              refine wpAnyF_take (i := 21) (oi := _) (v := ?_) rfl (by kernel_rfl) (by kernel_rfl) (by kernel_rfl) (by kernel_rfl) (fun _ _ _ h => h) (Or.inl ⟨by rfl, ?_⟩) (by assumption) ?_
                              rotate_left 1
                              · intro w hSw
                                (try dsimp only at hSw)
                                (first | (go_simp; done) | (go_simp; with_reducible rfl))
                              (try simp only [Act.put, List.getElem_toArray, List.getElem_cons_succ, List.getElem_cons_zero, List.setIfInBounds_toArray, List.set_cons_zero, List.set_cons_succ])
                              refine wpAnyF_take (i := 22) (oi := _) (v := ?_) rfl (by kernel_rfl) (by kernel_rfl) (by kernel_rfl) (by kernel_rfl) (fun _ _ _ h => h) (Or.inl ⟨by rfl, ?_⟩) (by assumption) ?_
                              rotate_left 1
                              · intro w hSw
                                (try dsimp only at hSw)
                                (first | (go_simp; done) | (go_simp; with_reducible rfl))
                              (try simp only [Act.put, List.getElem_toArray, List.getElem_cons_succ, List.getElem_cons_zero, List.setIfInBounds_toArray, List.set_cons_zero, List.set_cons_succ])
                              refine wpAnyF_ready (rs := [23]) (by kernel_rfl) (by simp) ?_
                              refine AllReadyF.cons (o := _) rfl (fun K hK => ?_) AllReadyF.nil
                              go_simp
                              (go_at_call 15)
                              ((with_reducible refine (KR.out _).mono ?_))
                              rintro e w5 ⟨A5, c5, rfl, hb5, hx5⟩
                              have hc5 := conv_at hx5
                              rw [HS2.out] at hc5
                              refine hK.out _ _ (KN.out _ _ (by assumption) hb5) (fun hHeld23 => ?_)
                              clear hK K
                              (try simp only [Act.put, List.getElem_toArray, List.getElem_cons_succ, List.getElem_cons_zero, List.setIfInBounds_toArray, List.set_cons_zero, List.set_cons_succ])
                              refine wpAnyF_ready (rs := [24]) (by kernel_rfl) (by simp) ?_
                              refine AllReadyF.cons (o := _) rfl (fun K hK => ?_) AllReadyF.nil
                              go_simp
                              refine hK.out _ _ (by assumption) (fun hHeld24 => ?_)
                              clear hK K
                              (try simp only [Act.put, List.getElem_toArray, List.getElem_cons_succ, List.getElem_cons_zero, List.setIfInBounds_toArray, List.set_cons_zero, List.set_cons_succ])
                              refine wpAnyF_ready (rs := [25]) (by kernel_rfl) (by simp) ?_
                              refine AllReadyF.cons (o := _) rfl (fun K hK => ?_) AllReadyF.nil
                              go_simp
                              refine hK.out _ _ (by assumption) (fun hHeld25 => ?_)
                              clear hK K
                              (try simp only [Act.put, List.getElem_toArray, List.getElem_cons_succ, List.getElem_cons_zero, List.setIfInBounds_toArray, List.set_cons_zero, List.set_cons_succ])
                              refine wpAnyF_ready (rs := [26]) (by kernel_rfl) (by simp) ?_
                              refine AllReadyF.cons (o := _) rfl (fun K hK => ?_) AllReadyF.nil
                              go_simp
                              refine hK.out _ _ (by assumption) (fun hHeld26 => ?_)
                              clear hK K
                              (try simp only [Act.put, List.getElem_toArray, List.getElem_cons_succ, List.getElem_cons_zero, List.setIfInBounds_toArray, List.set_cons_zero, List.set_cons_succ])
                              refine wpAnyF_done (by kernel_rfl) ?_ _
                              have HF : Hid (HitR W5 LL x10 x12 (.bool rb) w5) := Lib.hid ⟨rb, rfl, HRB.out, hHeld23.2.2.2.2.2⟩
                              clear hc5 hx5 hb5 hHeld hHeld23 hHeld24 hHeld25 hHeld26
                              go_wp2
                              go_meet
                              case rel => exact HF.out
                            · have q12 : ((x12 : Int) == (T : Int)) = false := by rw [beq_eq_false_iff_ne]; omega
                              have HF : Hid (HitR W5 LL P T (.bool false) W5.drew) := Lib.hid ⟨false, rfl, ⟨(fun e => by cases e), fun h => absurd (H12.out h) h12⟩, (Below.refl _ _).drew⟩
                              subst h10
                              clear h12 H10 H12
                              go_big_region
                              go_wp2
                              go_meet
                              case rel => exact HF.out
                          · have q10 : ((x10 : Int) == (P : Int)) = false := by rw [beq_eq_false_iff_ne]; omega
                            have HF : Hid (HitR W5 LL P T (.bool false) W5.drew) := Lib.hid ⟨false, rfl, ⟨(fun e => by cases e), fun h => absurd (H10.out h) h10⟩, (Below.refl _ _).drew⟩
                            clear h10 H10 H12
                            go_big_region
                            go_wp2
                            go_meet
                            case rel => exact HF.out
                        · have h256 : ((nn : Int) == 256) = false := by rw [beq_eq_false_iff_ne]; omega
                          have HF : Hid (HitR W5 LL P T (.bool false) W5.drew) := Lib.hid ⟨false, rfl, ⟨(fun e => by cases e), fun h => absurd (HLWA.out.2.1.len.symm.trans h.1) hn⟩, (Below.refl _ _).drew⟩
                          go_big_region
                          go_wp2
                          go_meet
                          case rel => exact HF.out
                      case rest =>
                        obtain ⟨rb, rfl, hrb, hbx⟩ := hcut
                        have HRB := Lib.hid hrb
                        have HL5 := Lib.hid (HLWA.out.below hbx)
                        have HO5 := Lib.hid (HTO.out.after hbx)
                        clear hbx hrb HLWA HTO
                        cases rb
                        · have HF : Hid (LW w gx gw A nn c LL px tx b2 P (T + 1) wc) := Lib.hid (lw_skip HL5.out (fun h => by have := HRB.out.mpr h; cases this))
                          go_wp2
                          go_roundg (24 - T)
                          case measure => omega
                          case rel => exact ⟨T + 1, b2, rfl, by omega, by omega, rfl, HF.out⟩
                        · have HF : Hid (LW w gx gw A nn c LL px tx true P (T + 1) ((wc.setCell ⟨gw, 0, none⟩ (.int .i64 (P : Int))).setCell ⟨gw, 1, none⟩ (.int .i64 (T : Int)))) := Lib.hid (lw_hit HL5.out (HRB.out.mp rfl) HMAY.out)
                          obtain ⟨_, _, _, _, _, ⟨x, y, h6, _⟩, _⟩ := HL5.out
                          have c0 := h6.fst
                          have c1 := h6.snd
                          have f0 : wc.frozen? ⟨gw, 0, none⟩ = false := blk_free h6 0
                          have f1 : wc.frozen? ⟨gw, 1, none⟩ = false := blk_free h6 1
                          have d0 := HO5.out.fst
                          have d1 := HO5.out.snd
                          clear h6
                          go_wp2
                          go_roundg (24 - T)
                          case measure => omega
                          case rel => exact ⟨T + 1, true, rfl, by omega, by omega, rfl, HF.out⟩
                    · obtain rfl : T = 25 := by omega
                      have HF := Lib.hid (lw_next HLW.out)
                      clear HLW
                      go_wp2
                      go_roundg (64 - P)
                      case measure => omega
                      case rel => exact ⟨P + 1, b2, rfl, by omega, by omega, rfl, HF.out⟩
                · obtain rfl : P = 65 := by omega
                  obtain ⟨g1, g2, g3, g4, g5, ⟨x, y, g6, g7, g8⟩, g9⟩ := HLW.out
                  have c0 := g5.fst
                  have c1 := g5.snd
                  have d0 := g6.fst
                  have d1 := g6.snd
                  have HB9 := Lib.hid g1
                  by_cases hS : SupS LL
                  · obtain ⟨e1, e2, e3⟩ := HPV.out.1 hS
                    have e4 : bb = true := g9.mpr ⟨hS, by have := hS.2.1; unfold Geo.May at this; omega⟩
                    obtain ⟨e5, e6⟩ := g7 e4
                    subst e4 e1 e2 e3 e5 e6
                    clear HLW HPV g1 g2 g3 g4 g5 g6 g7 g8 g9 hS
                    generalize pF LL = pp at *
                    generalize tF LL = tt at *
                    go_wp2_with fail
                    refine (awake13_any _).mono ?_
                    rintro e w6 ⟨rfl, hb6⟩
                    have HB6 := Lib.hid (HB9.out.trans (hb6.mono HB9.out.size))
                    clear hb6 c0 c1 d0 d1
                    go_wp2
                    go_ret
                    exact ⟨rfl, HB6.out⟩
                  · obtain ⟨e1, e2, e3⟩ := HPV.out.2 hS
                    have e4 : bb = false := by
                      cases hbb : bb
                      · rfl
                      · exact absurd (g9.mp hbb).1 hS
                    obtain ⟨e5, e6⟩ := g8 e4
                    subst e4 e1 e2 e3 e5 e6
                    clear HLW HPV g1 g2 g3 g4 g5 g6 g7 g8 g9 hS
                    go_wp2_with fail
                    refine (awake13_any _).mono ?_
                    rintro e w6 ⟨rfl, hb6⟩
                    have HB6 := Lib.hid (HB9.out.trans (hb6.mono HB9.out.size))
                    clear hb6 c0 c1 d0 d1
                    go_wp2
                    go_ret
                    exact ⟨rfl, HB6.out⟩
end Go.Proofs.Ytbfbcjfeicecmaa
