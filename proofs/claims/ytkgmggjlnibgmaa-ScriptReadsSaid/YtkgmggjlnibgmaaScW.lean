/-
  Package script: Parse.
-/
import Derived.Test.YtkgmggjlnibgmaaScV
namespace Go.Proofs.Ytkgmggjlnibgmaa
open Go.RowKit Go
set_option linter.unusedVariables false
set_option linter.unusedSimpArgs false
set_option maxRecDepth 100000
theorem oneP_may {b r : List Nat} {a : Ac} (h : oneP b = some (a, r)) : mayA a = true := by
  unfold oneP at h
  split at h
  · cases h
  · split at h
    · cases h
    · split at h
      · rename_i hm
        have e := (Prod.ext_iff.mp (Option.some.inj h)).1
        dsimp only at e
        rw [← e]; exact hm
      · cases h
theorem parseL_may : ∀ (n : Nat) (b : List Nat) (l : List Ac), b.length ≤ n → parseL b = some l → ∀ i, i < l.length → mayA (aAt l i) = true := by
  intro n
  induction n with
  | zero =>
    intro b l hb h i hi
    have : b = [] := List.eq_nil_of_length_eq_zero (by omega)
    subst this
    rw [parseL_nil] at h
    have := Option.some.inj h
    subst this
    simp at hi
  | succ n ih =>
    intro b l hb h i hi
    by_cases h0 : b.length = 0
    · exact ih b l (by omega) h i hi
    · cases h1 : oneP b with
      | none => rw [parseL_none h0 h1] at h; cases h
      | some p =>
        have h2 := oneP_short (a := p.1) (r := p.2) h1
        rw [parseL_some (a := p.1) (r := p.2) h1] at h
        cases h3 : parseL p.2 with
        | none => rw [h3] at h; cases h
        | some l2 =>
          rw [h3] at h
          have e := Option.some.inj h
          subst e
          match i, hi with
          | 0, _ => exact oneP_may (a := p.1) (r := p.2) h1
          | i + 1, hi => exact ih p.2 l2 (by omega) h3 i (by simpa using hi)
theorem map_appP (pre : List Ac) (a : Ac) (o : Option (List Ac)) : ((o.map (a :: ·)).map (pre ++ ·)) = o.map ((pre ++ [a]) ++ ·) := by cases o <;> simp
theorem rest_row (g : Nat) (l : List Nat) (e : Int) (W : World) (hst : RowSt W g 72 l e) :
    Calls Try.prog 28 #[.pointer (some ⟨g, 0, none⟩)] W fun E W' => E = .returned (.int .i64 (l.length : Int)) ∧ W = W' := by
  obtain ⟨A, c, hg, _⟩ := hst
  have c0 : W.cell? ⟨g, 0, none⟩ = some (.slice A l.length c) := blk_cell hg 0
  clear hg
  go_enter Try.func28, Try.ntmps28
  go_wp2
  go_ret
  exact ⟨rfl, rfl⟩
def PParseTo (w : World) (B : List Nat) (e : Ending) (w' : World) : Prop :=
  Below w.heap.size w w' ∧ ((parseL B = none ∧ e = .returned (.tuple #[.slice none 0 0, .int .i64 4])) ∨ (∃ l A c, parseL B = some l ∧ e = .returned (.tuple #[.slice A l.length c, .int .i64 0]) ∧ AcV w' A l.length l ∧ l.length * 12 ≤ B.length))
def restOf (w : World) (g : Nat) : Nat := match w.cell? ⟨g, 0, none⟩ with | some (.slice _ n _) => n | _ => 0
theorem restOf_row {w : World} {g : Nat} {l : List Nat} {e : Int} (h : RowSt w g 72 l e) : restOf w g = l.length := by
  obtain ⟨A, c, hg, _⟩ := h
  unfold restOf
  rw [show w.cell? ⟨g, 0, none⟩ = some (.slice A l.length c) from blk_cell hg 0]
def PpR (w wS : World) (g : Nat) (B : List Nat) (v : Value) (wr : World) : Prop :=
  ∃ (x : Value) (pre : List Ac) (rest : List Nat), x = v ∧ RowSt wr g 72 rest 0 ∧ byteL rest ∧ parseL B = (parseL rest).map (pre ++ ·) ∧ pre.length * 12 + rest.length ≤ B.length ∧ AcO 28 wr w.heap.size wS.heap.size x pre ∧ Below w.heap.size w wr ∧ wS.heap.size ≤ wr.heap.size
theorem AcO.onlyG {t : TypeId} {w w' : World} {B0 B g : Nat} {v : Value} {l : List Ac} (h : AcO t w B0 B v l) (h0 : B0 ≤ g) (hB : g < B) (hw : B ≤ w.heap.size) (hg : w.grownBy w' (some g)) : AcO t w' B0 B v l :=
  h.mid (by omega) hw (fun k hk => hg.block k (by omega) (fun e => by have := Option.some.inj e; omega)) (fun k hk hk2 => hg.block k hk2 (fun e => by have := Option.some.inj e; omega)) hg.size
theorem EnI.ofOwn {w : World} {B0 B B1 : Nat} {A : Option Addr} {c : Nat} {l : List Nat} (h : Own w B1 (.slice A l.length c) l) (hb : byteL l) (hB : B ≤ B1) : EnI w B0 B A c l := ⟨.inr ⟨h.base hB, hb⟩, own_zero h⟩
set_option maxHeartbeats 8000000 in
theorem pparse_any (A : Option Addr) (n c : Nat) (B : List Nat) (w : World) (hs : BS w w.heap.size A n c B) (hn : n < 1000000) :
    Calls Try.prog 14 #[.slice A n c] w (PParseTo w B) := by
  have HBY := Lib.hid hs.byte
  have HL := Lib.hid hs.len
  have HOF := Lib.hid (of_big A n c B w hs hn)
  clear hs
  go_enter Try.func14, Try.ntmps14
  go_wp2_with fail
  refine HOF.out.mono ?_
  rintro e wS ⟨g, rfl, hg, hbS, htS⟩
  have HGW : Hid (w.heap.size ≤ g ∧ g < wS.heap.size) := Lib.hid ⟨hg, htS.lt⟩
  have HR : Hid (PpR w wS g B (.slice none 0 0) wS) := Lib.hid ⟨_, [], B, rfl, htS, HBY.out, by simp, by simp, AcO.nil _ _ _ _, hbS, Nat.le_refl _⟩
  clear hg hbS htS HOF
  go_wp2_with fail
  go_loopw [4] (fun v wr => PpR w wS g B v wr) (fun _ wr => restOf wr g)
  case atStart => exact HR.out
  case round =>
    clear HR
    obtain ⟨v, pre, rest, rfl, ht, hb, hpar, hlen, hO, hB, hS⟩ := hrel
    have HT := Lib.hid ht
    have HRB := Lib.hid hb
    have HPAR := Lib.hid hpar
    have HLEN := Lib.hid hlen
    have HO := Lib.hid hO
    have HB := Lib.hid hB
    have HS := Lib.hid hS
    have HME := Lib.hid (restOf_row ht)
    have HRE := Lib.hid (rest_row g rest 0 wr ht)
    clear ht hb hpar hlen hO hB hS
    obtain ⟨m, hm⟩ : ∃ m, rest.length = m := ⟨_, rfl⟩
    have HM := Lib.hid hm
    rw [hm] at HRE
    clear hm
    go_wp2_with fail
    refine HRE.out.mono ?_
    rintro e wq ⟨rfl, rfl⟩
    by_cases hm0 : 0 < m
    · have hmI : (0 : Int) < (m : Int) := by omega
      have HNX := Lib.hid (next_any g rest wr HT.out HRB.out (by have := HLEN.out; have := HL.out; omega))
      clear HRE
      go_wp2_with fail
      refine HNX.out.mono ?_
      rintro e w1 ⟨a, A1, c1, l8, ok, rfl, hg1, hok, hno⟩
      have HG1 := Lib.hid hg1
      have HB1 : Hid (Below w.heap.size w w1) := Lib.hid (below_only HB.out HGW.out.1 (HB.out.size) hg1)
      have HO1 : Hid (AcO 28 w1 w.heap.size wS.heap.size v pre) := Lib.hid (HO.out.onlyG HGW.out.1 HGW.out.2 HS.out hg1)
      have HA2 : Hid (After w1 (w1.alloc (.cells #[.int .i64 a.kind, .bool a.yes, .int .i64 a.which, .int .i64 a.k, .int .i64 a.n, .int .i64 a.pos, .slice A1 a.b.length c1] 28))) := Lib.hid (al1 _ _)
      have HX2 : Hid ((w1.alloc (.cells #[.int .i64 a.kind, .bool a.yes, .int .i64 a.which, .int .i64 a.k, .int .i64 a.n, .int .i64 a.pos, .slice A1 a.b.length c1] 28)).heap[w1.heap.size]? = some (.cells #[.int .i64 a.kind, .bool a.yes, .int .i64 a.which, .int .i64 a.k, .int .i64 a.n, .int .i64 a.pos, .slice A1 a.b.length c1] 28 (0, 0))) := Lib.hid (heap_alloc_new _ _)
      have HO2 : Hid (AcO 28 (w1.alloc (.cells #[.int .i64 a.kind, .bool a.yes, .int .i64 a.which, .int .i64 a.k, .int .i64 a.n, .int .i64 a.pos, .slice A1 a.b.length c1] 28)) w.heap.size wS.heap.size v pre) := Lib.hid (HO1.out.below (by have := HGW.out; omega) (Nat.le_trans HS.out hg1.size) HA2.out)
      have HB2 : Hid (Below w.heap.size w (w1.alloc (.cells #[.int .i64 a.kind, .bool a.yes, .int .i64 a.which, .int .i64 a.k, .int .i64 a.n, .int .i64 a.pos, .slice A1 a.b.length c1] 28))) := Lib.hid (HB1.out.trans (Below.mono HA2.out HB1.out.size))
      clear hg1 HNX
      cases ok
      · have HF : Hid (∀ W, Below w.heap.size w W → PParseTo w B (.returned (.tuple #[.slice none 0 0, .int .i64 4])) W) := Lib.hid (fun W hW => ⟨hW, .inl ⟨by
          rw [HPAR.out, parseL_none (by rw [HM.out]; omega) (hno rfl)]; rfl, rfl⟩⟩)
        clear hok hno
        obtain ⟨n1, hn1⟩ : ∃ n1, a.b.length = n1 := ⟨_, rfl⟩
        rw [hn1] at HB2 ⊢
        go_wp2
        exact bodyPost_ret (v := .tuple #[.slice none 0 0, .int .i64 4]) (by simp [results, Try.results14, go_sem]) rfl (HF.out _ HB2.out)
      · obtain ⟨ho, ht8, hown, hab⟩ := hok rfl
        have HT8 := Lib.hid ht8
        have HOW := Lib.hid hown
        have HAB := Lib.hid hab
        have HSH := Lib.hid (oneP_short ho)
        have HP8 : Hid (parseL B = (parseL l8).map ((pre ++ [a]) ++ ·)) := Lib.hid (by rw [HPAR.out, parseL_some ho, map_appP])
        have HR8 : Hid (byteL l8) := Lib.hid (by
          obtain ⟨A', c', _, h⟩ := ht8
          exact h.byte)
        clear hok hno ho ht8 hown hab
        have HT2 : Hid (RowSt (w1.alloc (.cells #[.int .i64 a.kind, .bool a.yes, .int .i64 a.which, .int .i64 a.k, .int .i64 a.n, .int .i64 a.pos, .slice A1 a.b.length c1] 28)) g 72 l8 0) := Lib.hid (HT8.out.below HA2.out)
        have HI2 : Hid (EnI (w1.alloc (.cells #[.int .i64 a.kind, .bool a.yes, .int .i64 a.which, .int .i64 a.k, .int .i64 a.n, .int .i64 a.pos, .slice A1 a.b.length c1] 28)) w.heap.size wS.heap.size A1 c1 a.b) := Lib.hid ((EnI.ofOwn HOW.out HAB.out HS.out).below (by have := HGW.out; omega) (Nat.le_trans HS.out HG1.out.size) HA2.out)
        have HTL : Hid (pre.length < 100000) := Lib.hid (by have := HLEN.out; have := HL.out; omega)
        have HNEXT : Hid (∀ v' w', AcO 28 w' w.heap.size wS.heap.size v' (pre ++ [⟨a.kind, a.yes, a.which, a.k, a.n, a.pos, a.b⟩]) → Below wS.heap.size (w1.alloc (.cells #[.int .i64 a.kind, .bool a.yes, .int .i64 a.which, .int .i64 a.k, .int .i64 a.n, .int .i64 a.pos, .slice A1 a.b.length c1] 28)) w' → PpR w wS g B v' w' ∧ restOf w' g < m) := Lib.hid (fun v' w' h1 h2 => by
          have h3 : RowSt w' g 72 l8 0 := by
            obtain ⟨A', c', q1, q2⟩ := HT2.out
            exact ⟨A', c', (h2.block g HGW.out.2).trans q1, q2.keep fun p hp => h2.cell (Nat.lt_trans hp HGW.out.2)⟩
          refine ⟨⟨v', pre ++ [a], l8, rfl, h3, HR8.out, HP8.out, ?_, h1, HB2.out.trans (h2.mono (by have := HGW.out; omega)), ?_⟩, ?_⟩
          · have h4 := HLEN.out
            have h5 := HSH.out
            rw [List.length_append]
            simp
            omega
          · exact Nat.le_trans (Nat.le_trans HS.out HG1.out.size) (Nat.le_trans (Below.size HA2.out) h2.size)
          · rw [restOf_row h3]
            have := HSH.out; have := HM.out; omega)
        have HSZ2 : Hid (wS.heap.size ≤ (w1.alloc (.cells #[.int .i64 a.kind, .bool a.yes, .int .i64 a.which, .int .i64 a.k, .int .i64 a.n, .int .i64 a.pos, .slice A1 a.b.length c1] 28)).heap.size) := Lib.hid (Nat.le_trans (Nat.le_trans HS.out HG1.out.size) (Below.size HA2.out))
        obtain ⟨kd, hkd⟩ : ∃ x, x = a.kind := ⟨_, rfl⟩
        obtain ⟨y, hy⟩ : ∃ x, x = a.yes := ⟨_, rfl⟩
        obtain ⟨z1, hz1⟩ : ∃ x, x = a.which := ⟨_, rfl⟩
        obtain ⟨z2, hz2⟩ : ∃ x, x = a.k := ⟨_, rfl⟩
        obtain ⟨z3, hz3⟩ : ∃ x, x = a.n := ⟨_, rfl⟩
        obtain ⟨z4, hz4⟩ : ∃ x, x = a.pos := ⟨_, rfl⟩
        obtain ⟨bb, hbb⟩ : ∃ x, x = a.b := ⟨_, rfl⟩
        rw [← hkd, ← hy, ← hz1, ← hz2, ← hz3, ← hz4, ← hbb] at HO2 HX2 HI2 HNEXT HSZ2 ⊢
        clear hkd hy hz1 hz2 hz3 hz4 hbb HA2 HB2 HT2 HT8 HOW HAB HSH HP8 HR8
        obtain ⟨n1, hn1⟩ : ∃ n1, bb.length = n1 := ⟨_, rfl⟩
        have HN1 := Lib.hid hn1
        rw [hn1] at HO2 HX2 HI2 HNEXT HSZ2 ⊢
        clear hn1
        go_upto_region 7 with (fail)
        generalize w1.alloc (.cells #[.int .i64 kd, .bool y, .int .i64 z1, .int .i64 z2, .int .i64 z3, .int .i64 z4, .slice A1 n1 c1] 28) = w2 at *
        have d0 : w2.cell? ⟨w1.heap.size, 0, none⟩ = some (.int .i64 kd) := blk_cell HX2.out 0
        have d1 : w2.cell? ⟨w1.heap.size, 1, none⟩ = some (.bool y) := blk_cell HX2.out 1
        have d2 : w2.cell? ⟨w1.heap.size, 2, none⟩ = some (.int .i64 z1) := blk_cell HX2.out 2
        have d3 : w2.cell? ⟨w1.heap.size, 3, none⟩ = some (.int .i64 z2) := blk_cell HX2.out 3
        have d4 : w2.cell? ⟨w1.heap.size, 4, none⟩ = some (.int .i64 z3) := blk_cell HX2.out 4
        have d5 : w2.cell? ⟨w1.heap.size, 5, none⟩ = some (.int .i64 z4) := blk_cell HX2.out 5
        have d6 : w2.cell? ⟨w1.heap.size, 6, none⟩ = some (.slice A1 n1 c1) := blk_cell HX2.out 6
        go_wp2_with (at_builtin; refine wp_appA 28 29 Try.underlying29 (by kernel_rfl) (by decide) _ rfl (.tmp 20) (.tmp 22) rfl w.heap.size wS.heap.size (by have := HGW.out; omega) v pre kd z1 z2 z3 z4 y bb A1 c1 n1 HN1.out rfl HO2.out HTL.out rfl HI2.out HSZ2.out ?_; intro v9 w9 ho9 hd9 hf9; have HG := Lib.hid (HNEXT.out v9 w9 ho9 hd9); clear ho9 hd9 hf9)
        go_roundw
        case rel => exact HG.out.1
        case measure => rw [HME.out, HM.out]; exact HG.out.2
    · have hr0 : rest = [] := List.eq_nil_of_length_eq_zero (by rw [HM.out]; omega)
      have hmI : ¬ (0 : Int) < (m : Int) := by omega
      obtain ⟨A9, c9, rfl, hv9, _⟩ := HO.out.acV (by have := HGW.out; omega) HS.out
      have HF : Hid (PParseTo w B (.returned (.tuple #[.slice A9 pre.length c9, .int .i64 0])) wr) := Lib.hid ⟨HB.out, .inr ⟨pre, A9, c9, by
        rw [HPAR.out, hr0, parseL_nil]; simp, rfl, hv9, by have := HLEN.out; omega⟩⟩
      clear hv9 HO HRE
      generalize pre.length = np at *
      go_wp2
      exact bodyPost_ret (v := .tuple #[.slice A9 np c9, .int .i64 0]) (by simp [results, Try.results14, go_sem]) rfl HF.out
end Go.Proofs.Ytkgmggjlnibgmaa
