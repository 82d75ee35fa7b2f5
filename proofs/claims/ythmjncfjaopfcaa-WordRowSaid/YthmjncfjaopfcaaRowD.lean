/-
  The walk of WordRow.
-/
import Derived.Test.YthmjncfjaopfcaaRowC
import Derived.Deep.RegionHeld3
namespace Go.Proofs.Ythmjncfjaopfcaa
open Go.RowKit
set_option linter.unusedVariables false
set_option linter.unusedSimpArgs false
/-- the questions that came in: for each there are two numbers -/
def QS (w : World) (A : Option Addr) (n : Nat) : Prop :=
  0 < n → ∃ b o, A = some ⟨b, o, none⟩ ∧ b < w.heap.size ∧ ∀ i, i < n → ∃ K N : Int, w.cell? ⟨b, o + i * 2, none⟩ = some (.int .i64 K) ∧ w.cell? ⟨b, o + i * 2 + 1, none⟩ = some (.int .i64 N)
def LawRel (w : World) (g h : Nat) (n : Nat) (v : Value) (wr : World) : Prop :=
  ∃ (i : Nat) (l l' : List Nat) (e : Int), v = .int .i64 (i : Int) ∧ i ≤ n ∧ Inv l e l' ∧ l.length ≤ 80 ∧ w.heap.size ≤ g ∧ g < h ∧ RowSt wr g 50 l e ∧ RowB wr h w.heap.size l' e ∧ Below w.heap.size w wr
theorem ref_pair {h B : Nat} {l1 l2 : List Nat} {e n : Int} {may : Bool} (ok : Bool) (hB : B ≤ h) (hinv : Inv l1 e l2) (hm : may = true ↔ (ok = true ∧ 0 ≤ n)) :
    ∃ l3, Inv (takeS l1 e n may).2.1 (takeS l1 e n may).2.2 l3 ∧ ∀ W, RowB W h B l2 e → Calls Try.prog 12 #[.pointer (some ⟨h, 0, none⟩), .int .i64 n, .bool ok] W
      fun E W' => ∃ A c, E = .returned (.slice A (takeS l1 e n may).1.length c) ∧ BS W' B A (takeS l1 e n may).1.length c (takeS l1 e n may).1 ∧ RowB W' h B l3 (takeS l1 e n may).2.2 ∧ W.grownBy W' (some h) := by
  have st := hinv.step (n := n) hm
  refine ⟨(refS l2 e n ok).2.1, st.2.2, fun W hW => (reftake_any h l2 e n ok W B hB hW).mono ?_⟩
  rintro E W' ⟨A, c, h1, h2, h3, h4⟩
  rw [st.1] at h1 h2
  rw [st.2.1] at h3
  exact ⟨A, c, h1, h2, h3, h4⟩
theorem takeS_left (l : List Nat) (e n : Int) (may : Bool) : (takeS l e n may).2.1.length ≤ l.length := by
  unfold takeS
  split
  · exact Nat.le_refl _
  · split
    · simp
    · split
      · simp
      · rw [List.length_drop]; omega
/-- the two numbers of a question stand in block s, and stay -/
theorem keep_q {W W' : World} {s g : Nat} {x0 x1 : Value} (hb : W.grownBy W' (some g)) (hne : s ≠ g) (hs : W.heap[s]? = some (.cells #[x0, x1] 32 (0, 0))) : W'.heap[s]? = some (.cells #[x0, x1] 32 (0, 0)) :=
  (hb.block s (blk_lt hs) (fun e => by injection e with e; exact hne e)).trans hs
def Asks (s : Nat) (K N : Int) (W : World) : Prop := W.heap[s]? = some (.cells #[.int .i64 K, .int .i64 N] 32 (0, 0))
theorem Asks.cells {s : Nat} {K N : Int} {W : World} (h : Asks s K N W) : W.cell? ⟨s, 0, none⟩ = some (.int .i64 K) ∧ W.cell? ⟨s, 1, none⟩ = some (.int .i64 N) ∧ Asks s K N W := ⟨blk_cell h 0, blk_cell h 1, h⟩
theorem asks_only {W W' : World} {s g : Nat} {K N : Int} (hb : W.grownBy W' (some g)) (h : W.cell? ⟨s, 0, none⟩ = some (.int .i64 K) ∧ W.cell? ⟨s, 1, none⟩ = some (.int .i64 N) ∧ Asks s K N W) (hne : s ≠ g) :
    W'.cell? ⟨s, 0, none⟩ = some (.int .i64 K) ∧ W'.cell? ⟨s, 1, none⟩ = some (.int .i64 N) ∧ Asks s K N W' := Asks.cells (keep_q hb hne h.2.2)
theorem below_row {B g : Nat} {a b c : World} (h : Below B a b) (k : b.grownBy c (some g)) (hg : B ≤ g) (hB : B ≤ b.heap.size) : Below B a c := below_only h hg hB k
/-- what stands behind a question: the two rows, the question, and what was there -/
def Fin (w : World) (g h s : Nat) (K N : Int) (lr : List Nat) (er : Int) (l3 : List Nat) (V : World) : Prop :=
  RowSt V g 50 lr er ∧ RowB V h w.heap.size l3 er ∧ Below w.heap.size w V ∧ Asks s K N V
theorem law_next {w V : World} {g h n i : Nat} {lr l3 : List Nat} {er : Int} (hi : i < n) (hinv : Inv lr er l3) (hl : lr.length ≤ 80) (hwg : w.heap.size ≤ g) (hgh : g < h)
    (h1 : RowSt V g 50 lr er) (h2 : RowB V h w.heap.size l3 er) (h3 : Below w.heap.size w V) : LawRel w g h n (.int .i64 ((i : Int) + 1)) V.drew :=
  ⟨i + 1, lr, l3, er, rfl, by omega, hinv, hl, hwg, hgh, h1.dr, h2.dr, h3.drew⟩
theorem BS.only_ref {W W' : World} {B n c h : Nat} {A : Option Addr} {l : List Nat} {e : Int} {t : TypeId} {A2 : Option Addr} {n2 c2 : Nat} (hs : BS W B A n c l)
    (hg : W.heap[h]? = some (.cells #[.slice A2 n2 c2, .int .i64 e] t (0, 0))) (hb : W.grownBy W' (some h)) (hB : B ≤ W.heap.size) : BS W' B A n c l := by
  obtain ⟨h1, h2, h3, h4, h5⟩ := hs
  refine ⟨h1, h2, h3, h4, fun hn => ?_⟩
  obtain ⟨b, o, e1, hbB, hc⟩ := h5 hn
  have hne : b ≠ h := by
    rintro rfl
    have k := hc 0 hn
    rw [blk_cell hg] at k
    rcases o with _ | _ | o
    · simp at k
    · simp at k
    · simp at k
  exact ⟨b, o, e1, hbB, fun i hi => (World.cell?_of_block (a := ⟨b, o + i, none⟩) (hb.block b (by omega) (fun e => by injection e with e; exact hne e))).trans (hc i hi)⟩
theorem BS.only_row {W W' : World} {B n c h B2 : Nat} {A : Option Addr} {l l2 : List Nat} {e : Int} (hs : BS W B A n c l) (hg : RowB W h B2 l2 e) (hb : W.grownBy W' (some h)) (hB : B ≤ W.heap.size := by exact Nat.le_refl _) : BS W' B A n c l := by
  obtain ⟨A2, c2, h1, _⟩ := hg
  exact BS.only_ref hs h1 hb hB
theorem below_fin {w V W6 W7 W9 : World} (h0 : Below w.heap.size w V) (h6 : Below V.heap.size V W6) (h7 : Below W6.heap.size W6 W7) (h9 : Below W7.heap.size W7 W9) : Below w.heap.size w W9 := by
  have k0 := h0.size
  have k6 := h6.size
  have k7 := h7.size
  exact ((h0.trans (h6.mono k0)).trans (h7.mono (by omega))).trans (h9.mono (by omega))
set_option maxHeartbeats 60000000 in
set_option maxRecDepth 100000 in
theorem wordRow_any (A A2 : Option Addr) (n c n2 c2 : Nat) (l : List Nat) (w : World) (hs : BS w w.heap.size A n c l) (hq : QS w A2 n2) (hn2 : n2 ≤ 9223372036854775807) :
    Calls Try.prog 3 #[.slice A n c, .slice A2 n2 c2] w fun e w' => e = .returned (.bool true) ∧ Below w.heap.size w w' := by
  have HQ := Lib.hid hq
  clear hq
  go_enter Try.func3, Try.ntmps3
  go_wp2_with fail
  refine (short_any _ _ _ l _ hs).mono ?_
  rintro e w1 ⟨rfl, ht, hw⟩
  have hm : (l.take 80).length ≤ 80 := by rw [List.length_take]; omega
  generalize l.take 80 = m at *
  subst hw
  clear hs
  go_wp2_with fail
  refine (of_any _ _ _ m _ ht (by omega)).mono ?_
  rintro e w1 ⟨g, rfl, hg, hb1, hr1⟩
  have hB := hb1.size
  have hgl := hr1.lt
  have h0 : LawRel w g w1.heap.size n2 (.int .i64 0) (w1.alloc (.cells #[.slice A m.length c, .int .i64 0] 30)) :=
    ⟨0, m, m, 0, rfl, by omega, ⟨fun _ => rfl, fun h => absurd rfl h⟩, hm, hg, hgl, hr1.below ((Below.refl _ _).alloc (Nat.le_refl _) _), ⟨A, c, heap_alloc_new w1 _, (ht.below hb1).below ((Below.refl _ _).alloc hB _)⟩, hb1.alloc hB _⟩
  have H0 := Lib.hid h0
  clear h0 hr1 ht hb1
  go_wp2
  generalize w1.heap.size = h at *
  generalize (w1.alloc (.cells #[.slice A m.length c, .int .i64 0] 30)) = W1 at *
  go_loopw [21] (fun v wr => LawRel w g h n2 v wr) (fun v _ => (n2 - intOf v).toNat)
  case atStart => exact H0.out
  case round =>
    obtain ⟨i, l1, l2, e, rfl, hi, hinv, hl80, hwg, hgh, hr, hrb, hbel⟩ := hrel
    have HI := Lib.hid hinv
    have HR := Lib.hid hr
    have HRB := Lib.hid hrb
    have HBEL := Lib.hid hbel
    clear hinv hr hrb hbel H0
    by_cases hlt : i < n2
    · by_cases h30 : 30 ≤ i
      · obtain ⟨b, o, rfl, hbw, hcell⟩ := HQ.out (by omega)
        obtain ⟨K, N, k0, k1⟩ := hcell i hlt
        have q0 : wr.cell? ⟨b, o + i * 2, none⟩ = some (.int .i64 K) := (HBEL.out.cell (p := ⟨b, o + i * 2, none⟩) hbw).trans k0
        have q1 : wr.cell? ⟨b, o + i * 2 + 1, none⟩ = some (.int .i64 N) := (HBEL.out.cell (p := ⟨b, o + i * 2 + 1, none⟩) hbw).trans k1
        have BEL := HBEL.out.alloc HBEL.out.size (.cells #[.int .i64 K, .int .i64 N] 32)
        clear hcell k0 k1
        go_wp2_with fail
        refine (err_nil _).mono ?_
        rintro E W5 ⟨rfl, rfl⟩
        go_wp2_with fail
        refine (num_nil _).mono ?_
        rintro E W6 ⟨rfl, hb6⟩
        go_wp2_with fail
        refine (bytes_nil _).mono ?_
        rintro E W7 ⟨⟨A7, c7, rfl⟩, hb7⟩
        go_wp2_with fail
        refine (rest_nil _).mono ?_
        rintro E W8 ⟨rfl, rfl⟩
        go_wp2_with fail
        refine (awake1_any _).mono ?_
        rintro E W9 ⟨rfl, hb9⟩
        go_wp2
        go_ret
        exact ⟨rfl, below_fin BEL hb6 hb7 hb9⟩
      · obtain ⟨b, o, rfl, hbw, hcell⟩ := HQ.out (by omega)
        obtain ⟨K, N, k0, k1⟩ := hcell i hlt
        have q0 : wr.cell? ⟨b, o + i * 2, none⟩ = some (.int .i64 K) := (HBEL.out.cell (p := ⟨b, o + i * 2, none⟩) hbw).trans k0
        have q1 : wr.cell? ⟨b, o + i * 2 + 1, none⟩ = some (.int .i64 N) := (HBEL.out.cell (p := ⟨b, o + i * 2 + 1, none⟩) hbw).trans k1
        clear hcell k0 k1
        have V0 : Asks wr.heap.size K N (wr.alloc (.cells #[.int .i64 K, .int .i64 N] 32)) := heap_alloc_new wr _
        have V1 := HR.out.below ((Below.refl _ _).alloc (Nat.le_refl _) (.cells #[.int .i64 K, .int .i64 N] 32))
        have V2 := HRB.out.only (only_alloc (World.grownBy.refl wr (some wr.heap.size)) (.cells #[.int .i64 K, .int .i64 N] 32)) (by have := HRB.out.lt; omega) (by have := HRB.out.lt; omega) (by have := HRB.out.lt; omega)
        have V3 := HBEL.out.alloc HBEL.out.size (.cells #[.int .i64 K, .int .i64 N] 32)
        have hsg : wr.heap.size ≠ g := by have := HR.out.lt; omega
        have hsh : wr.heap.size ≠ h := by have := HRB.out.lt; omega
        by_cases hK0 : K = 0
        · subst hK0
          rcases (by omega : (1 ≤ N ∧ N ≤ 8) ∨ N < 1 ∨ 8 < N) with ⟨hN1, hN8⟩ | hN | hN
          · skip
            obtain ⟨l3, hinv3, htake⟩ := ref_pair (h := h) (B := w.heap.size) (may := mayN N) true hB HI.out ⟨fun h => ⟨rfl, mayN_pos h⟩, fun _ => decide_eq_true ⟨hN1, hN8⟩⟩
            have hnum := fun W hst => num_any g l1 e N W hst
            have hlf := takeS_left l1 e N (mayN N)
            have HTK := Lib.hid htake
            have HNU := Lib.hid hnum
            have HI3 := Lib.hid hinv3
            clear htake hnum hinv3
            generalize takeS l1 e N (mayN N) = r at *
            go_wp2
            generalize (wr.alloc (.cells #[.int .i64 0, .int .i64 N] 32)) = V at *
            generalize wr.heap.size = s at *
            go_region_held3 (fun w' => w'.cell? ⟨s, 0, none⟩ = some (.int .i64 0) ∧ w'.cell? ⟨s, 1, none⟩ = some (.int .i64 N) ∧ Asks s 0 N w')
              (first | exact Asks.cells (by exact V0) | exact asks_only (by assumption) (by assumption) hsg | exact asks_only (by assumption) (by assumption) hsh | assumption)
              (first
              | (go_at_call 10; refine (HNU.out _ (by exact V1.dr)).mono ?_; rintro E W1 ⟨rfl, hr1, hb1⟩; have hrb1 := V2.dr.only hb1 (by omega) hwg (by exact V3.size))
              | (go_at_call 12; refine (HTK.out _ hrb1).mono ?_; rintro E W2 ⟨A3, c3, rfl, hs2, hrb2, hb2⟩; have hr2 := hr1.only hb2 (by omega) (by omega); have hq2 : Asks s 0 N W2 := keep_q hb2 hsh (keep_q hb1 hsg (by exact V0)); have hbl2 := below_row (below_row V3.drew hb1 hwg (by exact V3.size)) hb2 hB (Nat.le_trans (by exact V3.size) hb1.size); have FIN : Fin w g h s 0 N r.2.1 r.2.2 l3 W2 := ⟨hr2, hrb2, hbl2, hq2⟩)
              | (go_at_call 11; refine (refGet_any _ _ _ r.1 _ _ hs2).mono ?_; rintro E W3 ⟨rfl, rfl⟩))
            obtain ⟨fr, frb, fbel, fq⟩ := (by assumption : Fin w g h s 0 N r.2.1 r.2.2 l3 _)
            have HIV : Inv r.2.1 r.2.2 l3 := HI3.out
            have hlr : (r.2.1).length ≤ 80 := by omega
            generalize r.2.1 = lr at *
            generalize r.2.2 = er at *
            have HNX := Lib.hid (law_next hlt HIV hlr hwg hgh fr frb fbel)
            have hleft := HIV.left
            obtain ⟨A4, c4, x0, _⟩ := frb
            have y0 := blk_cell x0 0
            have y1 := blk_cell x0 1
            simp only [List.getElem?_toArray, List.getElem?_cons_zero, List.getElem?_cons_succ] at y0 y1
            have z0 := (Asks.cells fq).1
            have z1 := (Asks.cells fq).2.1
            have FR := Lib.hid fr
            have HLFT := Lib.hid hleft
            clear x0 fq fbel hleft fr
            have L3N : er = 0 → lr.length = l3.length := fun he => by have := HLFT.out; rw [if_neg (by simpa using he)] at this; omega
            have L3Z : er ≠ 0 → lr.length = 0 := fun he => by have := HLFT.out; rw [if_pos he] at this; omega
            have LN := Lib.hid L3N
            have LZ := Lib.hid L3Z
            clear HLFT L3N L3Z
            rcases Decidable.em (er = 0) with he | he
            · subst he
              have hb9 : ((lr.length : Int) != (l3.length : Int)) = false := by rw [LN.out rfl]; simp
              go_wp2
              go_region_held3 (fun w' => w'.cell? ⟨h, 1, none⟩ = some (.int .i64 0)) (first | exact y1 | assumption)
                (first
                | (go_at_call 14; refine (err_any g lr 0 _ (by exact FR.out.dr)).mono ?_; rintro E W5 ⟨rfl, rfl⟩)
                | (go_at_call 15; refine (rest_any g lr 0 _ (by exact FR.out.dr)).mono ?_; rintro E W5 ⟨rfl, rfl⟩))
              all_goals
                go_wp2
                go_roundw
                case rel => exact HNX.out
                case measure => simp [intOf]; omega
            · have hb9 : ((lr.length : Int) != 0) = false := by rw [LZ.out he]; rfl
              have hb8 : (er != 0) = true := by rw [bne_iff_ne]; exact he
              clear he
              go_wp2
              go_region_held3 (fun w' => w'.cell? ⟨h, 1, none⟩ = some (.int .i64 er)) (first | exact y1 | assumption)
                (first
                | (go_at_call 14; refine (err_any g lr er _ (by exact FR.out.dr)).mono ?_; rintro E W5 ⟨rfl, rfl⟩)
                | (go_at_call 15; refine (rest_any g lr er _ (by exact FR.out.dr)).mono ?_; rintro E W5 ⟨rfl, rfl⟩))
              all_goals
                go_wp2
                go_roundw
                case rel => exact HNX.out
                case measure => simp [intOf]; omega
          · have hd1 : decide (1 ≤ N) = false := decide_eq_false (by omega)
            obtain ⟨l3, hinv3, htake⟩ := ref_pair (h := h) (B := w.heap.size) (may := mayN N) false hB HI.out ⟨fun h => absurd (of_decide_eq_true h) (by omega), fun h => absurd h.1 (by decide)⟩
            have hnum := fun W hst => num_any g l1 e N W hst
            have hlf := takeS_left l1 e N (mayN N)
            have HTK := Lib.hid htake
            have HNU := Lib.hid hnum
            have HI3 := Lib.hid hinv3
            clear htake hnum hinv3
            generalize takeS l1 e N (mayN N) = r at *
            go_wp2
            generalize (wr.alloc (.cells #[.int .i64 0, .int .i64 N] 32)) = V at *
            generalize wr.heap.size = s at *
            refine wp_region_held_drew (S := (fun w' => w'.cell? ⟨s, 0, none⟩ = some (.int .i64 0) ∧ w'.cell? ⟨s, 1, none⟩ = some (.int .i64 N) ∧ Asks s 0 N w')) (by kernel_rfl) (Asks.cells (by exact V0)) (fun hHeld => ?_)
            refine wpAnyH_take (i := 0) (oi := _) (v := ?_) rfl (by kernel_rfl) (by kernel_rfl) (by kernel_rfl) (fun _ _ _ h => h) (Or.inl ⟨by rfl, ?_⟩) (by assumption) ?_
            rotate_left 1
            · intro w hSw
              (try dsimp only at hSw)
              (first | (go_simp; done) | (go_simp; with_reducible rfl))
            (try simp only [Act.put, List.getElem_toArray, List.getElem_cons_succ, List.getElem_cons_zero, List.setIfInBounds_toArray, List.set_cons_zero, List.set_cons_succ])
            refine wpAnyH_take (i := 1) (oi := _) (v := ?_) rfl (by kernel_rfl) (by kernel_rfl) (by kernel_rfl) (fun _ _ _ h => h) (Or.inl ⟨by rfl, ?_⟩) (by assumption) ?_
            rotate_left 1
            · intro w hSw
              (try dsimp only at hSw)
              (first | (go_simp; done) | (go_simp; with_reducible rfl))
            (try simp only [Act.put, List.getElem_toArray, List.getElem_cons_succ, List.getElem_cons_zero, List.setIfInBounds_toArray, List.set_cons_zero, List.set_cons_succ])
            refine wpAnyH_take (i := 2) (oi := _) (v := ?_) rfl (by kernel_rfl) (by kernel_rfl) (by kernel_rfl) (fun _ _ _ h => h) (Or.inl ⟨by rfl, ?_⟩) (by assumption) ?_
            rotate_left 1
            · intro w hSw
              (try dsimp only at hSw)
              (first | (go_simp; done) | (go_simp; with_reducible rfl))
            (try simp only [Act.put, List.getElem_toArray, List.getElem_cons_succ, List.getElem_cons_zero, List.setIfInBounds_toArray, List.set_cons_zero, List.set_cons_succ])
            refine wpAnyH_take (i := 4) (oi := _) (v := ?_) rfl (by kernel_rfl) (by kernel_rfl) (by kernel_rfl) (fun _ _ _ h => h) (Or.inl ⟨by rfl, ?_⟩) (by assumption) ?_
            rotate_left 1
            · intro w hSw
              (try dsimp only at hSw)
              (first | (go_simp; done) | (go_simp; with_reducible rfl))
            (try simp only [Act.put, List.getElem_toArray, List.getElem_cons_succ, List.getElem_cons_zero, List.setIfInBounds_toArray, List.set_cons_zero, List.set_cons_succ])
            refine wpAnyH_take (i := 5) (oi := _) (v := ?_) rfl (by kernel_rfl) (by kernel_rfl) (by kernel_rfl) (fun _ _ _ h => h) (Or.inl ⟨by rfl, ?_⟩) (by assumption) ?_
            rotate_left 1
            · intro w hSw
              (try dsimp only at hSw)
              (first | (go_simp; done) | (go_simp; with_reducible rfl))
            (try simp only [Act.put, List.getElem_toArray, List.getElem_cons_succ, List.getElem_cons_zero, List.setIfInBounds_toArray, List.set_cons_zero, List.set_cons_succ])
            refine wpAnyH_take (i := 6) (oi := _) (v := ?_) rfl (by kernel_rfl) (by kernel_rfl) (by kernel_rfl) (fun _ _ _ h => h) (Or.inl ⟨by rfl, ?_⟩) (by assumption) ?_
            rotate_left 1
            · intro w hSw
              (try dsimp only at hSw)
              (first | (go_simp; done) | (go_simp; with_reducible rfl))
            (try simp only [Act.put, List.getElem_toArray, List.getElem_cons_succ, List.getElem_cons_zero, List.setIfInBounds_toArray, List.set_cons_zero, List.set_cons_succ])
            refine wpAnyH_take (i := 7) (oi := _) (v := ?_) rfl (by kernel_rfl) (by kernel_rfl) (by kernel_rfl) (fun _ _ _ h => h) (Or.inl ⟨by rfl, ?_⟩) (by assumption) ?_
            rotate_left 1
            · intro w hSw
              (try dsimp only at hSw)
              (first | (go_simp; done) | (go_simp; with_reducible rfl))
            (try simp only [Act.put, List.getElem_toArray, List.getElem_cons_succ, List.getElem_cons_zero, List.setIfInBounds_toArray, List.set_cons_zero, List.set_cons_succ])
            refine wpAnyH_take (i := 8) (oi := _) (v := ?_) rfl (by kernel_rfl) (by kernel_rfl) (by kernel_rfl) (fun _ _ _ h => h) (Or.inl ⟨by rfl, ?_⟩) (by assumption) ?_
            rotate_left 1
            · intro w hSw
              (try dsimp only at hSw)
              (first | (go_simp; done) | (go_simp; with_reducible rfl))
            (try simp only [Act.put, List.getElem_toArray, List.getElem_cons_succ, List.getElem_cons_zero, List.setIfInBounds_toArray, List.set_cons_zero, List.set_cons_succ])
            refine wpAnyH_take (i := 9) (oi := _) (v := ?_) rfl (by kernel_rfl) (by kernel_rfl) (by kernel_rfl) (fun _ _ _ h => h) (Or.inl ⟨by rfl, ?_⟩) (by assumption) ?_
            rotate_left 1
            · intro w hSw
              (try dsimp only at hSw)
              (first | (go_simp; done) | (go_simp; with_reducible rfl))
            (try simp only [Act.put, List.getElem_toArray, List.getElem_cons_succ, List.getElem_cons_zero, List.setIfInBounds_toArray, List.set_cons_zero, List.set_cons_succ])
            refine wpAnyH_ready (rs := [3]) (by kernel_rfl) (by simp) ?_
            refine AllReadyH.cons (o := _) rfl (fun K hK => ?_) AllReadyH.nil
            go_simp
            go_at_call 10
            refine (HNU.out _ (by exact V1.dr)).mono ?_
            rintro E W1 ⟨rfl, hr1, hb1⟩
            have hrb1 := V2.dr.only hb1 (by omega) hwg (by exact V3.size)
            refine hK.out _ _ (asks_only (by assumption) hHeld hsg) (fun hHeld1 => ?_)
            clear hK K
            (try simp only [Act.put, List.getElem_toArray, List.getElem_cons_succ, List.getElem_cons_zero, List.setIfInBounds_toArray, List.set_cons_zero, List.set_cons_succ])
            refine wpAnyH_take (i := 10) (oi := _) (v := ?_) rfl (by kernel_rfl) (by kernel_rfl) (by kernel_rfl) (fun _ _ _ h => h) (Or.inl ⟨by rfl, ?_⟩) (by assumption) ?_
            rotate_left 1
            · intro w hSw
              (try dsimp only at hSw)
              (first | (go_simp; done) | (go_simp; with_reducible rfl))
            (try simp only [Act.put, List.getElem_toArray, List.getElem_cons_succ, List.getElem_cons_zero, List.setIfInBounds_toArray, List.set_cons_zero, List.set_cons_succ])
            refine wpAnyH_take (i := 11) (oi := _) (v := undef) rfl (by kernel_rfl) (by kernel_rfl) (by kernel_rfl) (fun _ _ _ h => h) (Or.inr ⟨by rfl, rfl⟩) (by assumption) ?_
            (try simp only [Act.put, List.getElem_toArray, List.getElem_cons_succ, List.getElem_cons_zero, List.setIfInBounds_toArray, List.set_cons_zero, List.set_cons_succ])
            refine wpAnyH_take (i := 12) (oi := _) (v := undef) rfl (by kernel_rfl) (by kernel_rfl) (by kernel_rfl) (fun _ _ _ h => h) (Or.inr ⟨by rfl, rfl⟩) (by assumption) ?_
            (try simp only [Act.put, List.getElem_toArray, List.getElem_cons_succ, List.getElem_cons_zero, List.setIfInBounds_toArray, List.set_cons_zero, List.set_cons_succ])
            refine wpAnyH_take (i := 13) (oi := _) (v := undef) rfl (by kernel_rfl) (by kernel_rfl) (by kernel_rfl) (fun _ _ _ h => h) (Or.inr ⟨by rfl, rfl⟩) (by assumption) ?_
            (try simp only [Act.put, List.getElem_toArray, List.getElem_cons_succ, List.getElem_cons_zero, List.setIfInBounds_toArray, List.set_cons_zero, List.set_cons_succ])
            refine wpAnyH_take (i := 14) (oi := _) (v := ?_) rfl (by kernel_rfl) (by kernel_rfl) (by kernel_rfl) (fun _ _ _ h => h) (Or.inl ⟨by rfl, ?_⟩) (by assumption) ?_
            rotate_left 1
            · intro w hSw
              (try dsimp only at hSw)
              (first | (go_simp; done) | (go_simp; with_reducible rfl))
            (try simp only [Act.put, List.getElem_toArray, List.getElem_cons_succ, List.getElem_cons_zero, List.setIfInBounds_toArray, List.set_cons_zero, List.set_cons_succ])
            refine wpAnyH_ready (rs := [15]) (by kernel_rfl) (by simp) ?_
            refine AllReadyH.cons (o := _) rfl (fun K hK => ?_) AllReadyH.nil
            go_simp
            go_at_call 12
            refine (HTK.out _ hrb1).mono ?_
            rintro E W2 ⟨A3, c3, rfl, hs2, hrb2, hb2⟩
            have hr2 := hr1.only hb2 (by omega) (by omega)
            have hq2 : Asks s 0 N W2 := keep_q hb2 hsh (keep_q hb1 hsg (by exact V0))
            have hbl2 := below_row (below_row V3.drew hb1 hwg (by exact V3.size)) hb2 hB (Nat.le_trans (by exact V3.size) hb1.size)
            have FIN : Fin w g h s 0 N r.2.1 r.2.2 l3 W2 := ⟨hr2, hrb2, hbl2, hq2⟩
            refine hK.out _ _ (asks_only (by assumption) hHeld1 hsh) (fun hHeld2 => ?_)
            clear hK K
            (try simp only [Act.put, List.getElem_toArray, List.getElem_cons_succ, List.getElem_cons_zero, List.setIfInBounds_toArray, List.set_cons_zero, List.set_cons_succ])
            refine wpAnyH_ready (rs := [16]) (by kernel_rfl) (by simp) ?_
            refine AllReadyH.cons (o := _) rfl (fun K hK => ?_) AllReadyH.nil
            go_simp
            go_at_call 11
            refine (refGet_any _ _ _ r.1 _ _ hs2).mono ?_
            rintro E W3 ⟨rfl, rfl⟩
            refine hK.out _ _ (hHeld2) (fun hHeld3 => ?_)
            clear hK K
            (try simp only [Act.put, List.getElem_toArray, List.getElem_cons_succ, List.getElem_cons_zero, List.setIfInBounds_toArray, List.set_cons_zero, List.set_cons_succ])
            refine wpAnyH_take (i := 17) (oi := _) (v := ?_) rfl (by kernel_rfl) (by kernel_rfl) (by kernel_rfl) (fun _ _ _ h => h) (Or.inl ⟨by rfl, ?_⟩) (by assumption) ?_
            rotate_left 1
            · intro w hSw
              (try dsimp only at hSw)
              (first | (go_simp; done) | (go_simp; with_reducible rfl))
            (try simp only [Act.put, List.getElem_toArray, List.getElem_cons_succ, List.getElem_cons_zero, List.setIfInBounds_toArray, List.set_cons_zero, List.set_cons_succ])
            refine wpAnyH_take (i := 18) (oi := _) (v := ?_) rfl (by kernel_rfl) (by kernel_rfl) (by kernel_rfl) (fun _ _ _ h => h) (Or.inl ⟨by rfl, ?_⟩) (by assumption) ?_
            rotate_left 1
            · intro w hSw
              (try dsimp only at hSw)
              (first | (go_simp; done) | (go_simp; with_reducible rfl))
            (try simp only [Act.put, List.getElem_toArray, List.getElem_cons_succ, List.getElem_cons_zero, List.setIfInBounds_toArray, List.set_cons_zero, List.set_cons_succ])
            refine wpAnyH_done (by kernel_rfl) ?_ _
            obtain ⟨fr, frb, fbel, fq⟩ := (by assumption : Fin w g h s 0 N r.2.1 r.2.2 l3 _)
            have HIV : Inv r.2.1 r.2.2 l3 := HI3.out
            have hlr : (r.2.1).length ≤ 80 := by omega
            generalize r.2.1 = lr at *
            generalize r.2.2 = er at *
            have HNX := Lib.hid (law_next hlt HIV hlr hwg hgh fr frb fbel)
            have hleft := HIV.left
            obtain ⟨A4, c4, x0, _⟩ := frb
            have y0 := blk_cell x0 0
            have y1 := blk_cell x0 1
            simp only [List.getElem?_toArray, List.getElem?_cons_zero, List.getElem?_cons_succ] at y0 y1
            have z0 := (Asks.cells fq).1
            have z1 := (Asks.cells fq).2.1
            have FR := Lib.hid fr
            have HLFT := Lib.hid hleft
            clear x0 fq fbel hleft fr
            have L3N : er = 0 → lr.length = l3.length := fun he => by have := HLFT.out; rw [if_neg (by simpa using he)] at this; omega
            have L3Z : er ≠ 0 → lr.length = 0 := fun he => by have := HLFT.out; rw [if_pos he] at this; omega
            have LN := Lib.hid L3N
            have LZ := Lib.hid L3Z
            clear HLFT L3N L3Z
            rcases Decidable.em (er = 0) with he | he
            · subst he
              have hb9 : ((lr.length : Int) != (l3.length : Int)) = false := by rw [LN.out rfl]; simp
              go_wp2
              go_region_held3 (fun w' => w'.cell? ⟨h, 1, none⟩ = some (.int .i64 0)) (first | exact y1 | assumption)
                (first
                | (go_at_call 14; refine (err_any g lr 0 _ (by exact FR.out.dr)).mono ?_; rintro E W5 ⟨rfl, rfl⟩)
                | (go_at_call 15; refine (rest_any g lr 0 _ (by exact FR.out.dr)).mono ?_; rintro E W5 ⟨rfl, rfl⟩))
              all_goals
                go_wp2
                go_roundw
                case rel => exact HNX.out
                case measure => simp [intOf]; omega
            · have hb9 : ((lr.length : Int) != 0) = false := by rw [LZ.out he]; rfl
              have hb8 : (er != 0) = true := by rw [bne_iff_ne]; exact he
              clear he
              go_wp2
              go_region_held3 (fun w' => w'.cell? ⟨h, 1, none⟩ = some (.int .i64 er)) (first | exact y1 | assumption)
                (first
                | (go_at_call 14; refine (err_any g lr er _ (by exact FR.out.dr)).mono ?_; rintro E W5 ⟨rfl, rfl⟩)
                | (go_at_call 15; refine (rest_any g lr er _ (by exact FR.out.dr)).mono ?_; rintro E W5 ⟨rfl, rfl⟩))
              all_goals
                go_wp2
                go_roundw
                case rel => exact HNX.out
                case measure => simp [intOf]; omega
          · have hN1 : 1 ≤ N := by omega
            have hd8 : decide (N ≤ 8) = false := decide_eq_false (by omega)
            obtain ⟨l3, hinv3, htake⟩ := ref_pair (h := h) (B := w.heap.size) (may := mayN N) false hB HI.out ⟨fun h => absurd (of_decide_eq_true h) (by omega), fun h => absurd h.1 (by decide)⟩
            have hnum := fun W hst => num_any g l1 e N W hst
            have hlf := takeS_left l1 e N (mayN N)
            have HTK := Lib.hid htake
            have HNU := Lib.hid hnum
            have HI3 := Lib.hid hinv3
            clear htake hnum hinv3
            generalize takeS l1 e N (mayN N) = r at *
            go_wp2
            generalize (wr.alloc (.cells #[.int .i64 0, .int .i64 N] 32)) = V at *
            generalize wr.heap.size = s at *
            go_region_held3 (fun w' => w'.cell? ⟨s, 0, none⟩ = some (.int .i64 0) ∧ w'.cell? ⟨s, 1, none⟩ = some (.int .i64 N) ∧ Asks s 0 N w')
              (first | exact Asks.cells (by exact V0) | exact asks_only (by assumption) (by assumption) hsg | exact asks_only (by assumption) (by assumption) hsh | assumption)
              (first
              | (go_at_call 10; refine (HNU.out _ (by exact V1.dr)).mono ?_; rintro E W1 ⟨rfl, hr1, hb1⟩; have hrb1 := V2.dr.only hb1 (by omega) hwg (by exact V3.size))
              | (go_at_call 12; refine (HTK.out _ hrb1).mono ?_; rintro E W2 ⟨A3, c3, rfl, hs2, hrb2, hb2⟩; have hr2 := hr1.only hb2 (by omega) (by omega); have hq2 : Asks s 0 N W2 := keep_q hb2 hsh (keep_q hb1 hsg (by exact V0)); have hbl2 := below_row (below_row V3.drew hb1 hwg (by exact V3.size)) hb2 hB (Nat.le_trans (by exact V3.size) hb1.size); have FIN : Fin w g h s 0 N r.2.1 r.2.2 l3 W2 := ⟨hr2, hrb2, hbl2, hq2⟩)
              | (go_at_call 11; refine (refGet_any _ _ _ r.1 _ _ hs2).mono ?_; rintro E W3 ⟨rfl, rfl⟩))
            obtain ⟨fr, frb, fbel, fq⟩ := (by assumption : Fin w g h s 0 N r.2.1 r.2.2 l3 _)
            have HIV : Inv r.2.1 r.2.2 l3 := HI3.out
            have hlr : (r.2.1).length ≤ 80 := by omega
            generalize r.2.1 = lr at *
            generalize r.2.2 = er at *
            have HNX := Lib.hid (law_next hlt HIV hlr hwg hgh fr frb fbel)
            have hleft := HIV.left
            obtain ⟨A4, c4, x0, _⟩ := frb
            have y0 := blk_cell x0 0
            have y1 := blk_cell x0 1
            simp only [List.getElem?_toArray, List.getElem?_cons_zero, List.getElem?_cons_succ] at y0 y1
            have z0 := (Asks.cells fq).1
            have z1 := (Asks.cells fq).2.1
            have FR := Lib.hid fr
            have HLFT := Lib.hid hleft
            clear x0 fq fbel hleft fr
            have L3N : er = 0 → lr.length = l3.length := fun he => by have := HLFT.out; rw [if_neg (by simpa using he)] at this; omega
            have L3Z : er ≠ 0 → lr.length = 0 := fun he => by have := HLFT.out; rw [if_pos he] at this; omega
            have LN := Lib.hid L3N
            have LZ := Lib.hid L3Z
            clear HLFT L3N L3Z
            rcases Decidable.em (er = 0) with he | he
            · subst he
              have hb9 : ((lr.length : Int) != (l3.length : Int)) = false := by rw [LN.out rfl]; simp
              go_wp2
              go_region_held3 (fun w' => w'.cell? ⟨h, 1, none⟩ = some (.int .i64 0)) (first | exact y1 | assumption)
                (first
                | (go_at_call 14; refine (err_any g lr 0 _ (by exact FR.out.dr)).mono ?_; rintro E W5 ⟨rfl, rfl⟩)
                | (go_at_call 15; refine (rest_any g lr 0 _ (by exact FR.out.dr)).mono ?_; rintro E W5 ⟨rfl, rfl⟩))
              all_goals
                go_wp2
                go_roundw
                case rel => exact HNX.out
                case measure => simp [intOf]; omega
            · have hb9 : ((lr.length : Int) != 0) = false := by rw [LZ.out he]; rfl
              have hb8 : (er != 0) = true := by rw [bne_iff_ne]; exact he
              clear he
              go_wp2
              go_region_held3 (fun w' => w'.cell? ⟨h, 1, none⟩ = some (.int .i64 er)) (first | exact y1 | assumption)
                (first
                | (go_at_call 14; refine (err_any g lr er _ (by exact FR.out.dr)).mono ?_; rintro E W5 ⟨rfl, rfl⟩)
                | (go_at_call 15; refine (rest_any g lr er _ (by exact FR.out.dr)).mono ?_; rintro E W5 ⟨rfl, rfl⟩))
              all_goals
                go_wp2
                go_roundw
                case rel => exact HNX.out
                case measure => simp [intOf]; omega
        · by_cases hK1 : K = 1
          · subst hK1
            obtain ⟨l3, hinv3, htake⟩ := ref_pair (h := h) (B := w.heap.size) (may := decide (0 ≤ N)) true hB HI.out ⟨fun h => ⟨rfl, of_decide_eq_true h⟩, fun h => decide_eq_true h.2⟩
            have hnum := fun W hst => bytes_any g l1 e N W hst (by omega)
            have hlf := takeS_left l1 e N (decide (0 ≤ N))
            have HTK := Lib.hid htake
            have HNU := Lib.hid hnum
            have HI3 := Lib.hid hinv3
            clear htake hnum hinv3
            generalize takeS l1 e N (decide (0 ≤ N)) = r at *
            go_wp2
            generalize (wr.alloc (.cells #[.int .i64 1, .int .i64 N] 32)) = V at *
            generalize wr.heap.size = s at *
            refine wp_region_held_drew (S := (fun w' => w'.cell? ⟨s, 0, none⟩ = some (.int .i64 1) ∧ w'.cell? ⟨s, 1, none⟩ = some (.int .i64 N) ∧ Asks s 1 N w')) (by kernel_rfl) (Asks.cells (by exact V0)) (fun hHeld => ?_)
            refine wpAnyH_take (i := 0) (oi := _) (v := ?_) rfl (by kernel_rfl) (by kernel_rfl) (by kernel_rfl) (fun _ _ _ h => h) (Or.inl ⟨by rfl, ?_⟩) (by assumption) ?_
            rotate_left 1
            · intro w hSw
              (try dsimp only at hSw)
              (first | (go_simp; done) | (go_simp; with_reducible rfl))
            (try simp only [Act.put, List.getElem_toArray, List.getElem_cons_succ, List.getElem_cons_zero, List.setIfInBounds_toArray, List.set_cons_zero, List.set_cons_succ])
            refine wpAnyH_take (i := 1) (oi := _) (v := ?_) rfl (by kernel_rfl) (by kernel_rfl) (by kernel_rfl) (fun _ _ _ h => h) (Or.inl ⟨by rfl, ?_⟩) (by assumption) ?_
            rotate_left 1
            · intro w hSw
              (try dsimp only at hSw)
              (first | (go_simp; done) | (go_simp; with_reducible rfl))
            (try simp only [Act.put, List.getElem_toArray, List.getElem_cons_succ, List.getElem_cons_zero, List.setIfInBounds_toArray, List.set_cons_zero, List.set_cons_succ])
            refine wpAnyH_take (i := 2) (oi := _) (v := ?_) rfl (by kernel_rfl) (by kernel_rfl) (by kernel_rfl) (fun _ _ _ h => h) (Or.inl ⟨by rfl, ?_⟩) (by assumption) ?_
            rotate_left 1
            · intro w hSw
              (try dsimp only at hSw)
              (first | (go_simp; done) | (go_simp; with_reducible rfl))
            (try simp only [Act.put, List.getElem_toArray, List.getElem_cons_succ, List.getElem_cons_zero, List.setIfInBounds_toArray, List.set_cons_zero, List.set_cons_succ])
            refine wpAnyH_take (i := 5) (oi := _) (v := ?_) rfl (by kernel_rfl) (by kernel_rfl) (by kernel_rfl) (fun _ _ _ h => h) (Or.inl ⟨by rfl, ?_⟩) (by assumption) ?_
            rotate_left 1
            · intro w hSw
              (try dsimp only at hSw)
              (first | (go_simp; done) | (go_simp; with_reducible rfl))
            (try simp only [Act.put, List.getElem_toArray, List.getElem_cons_succ, List.getElem_cons_zero, List.setIfInBounds_toArray, List.set_cons_zero, List.set_cons_succ])
            refine wpAnyH_take (i := 6) (oi := _) (v := ?_) rfl (by kernel_rfl) (by kernel_rfl) (by kernel_rfl) (fun _ _ _ h => h) (Or.inl ⟨by rfl, ?_⟩) (by assumption) ?_
            rotate_left 1
            · intro w hSw
              (try dsimp only at hSw)
              (first | (go_simp; done) | (go_simp; with_reducible rfl))
            (try simp only [Act.put, List.getElem_toArray, List.getElem_cons_succ, List.getElem_cons_zero, List.setIfInBounds_toArray, List.set_cons_zero, List.set_cons_succ])
            refine wpAnyH_take (i := 7) (oi := _) (v := ?_) rfl (by kernel_rfl) (by kernel_rfl) (by kernel_rfl) (fun _ _ _ h => h) (Or.inl ⟨by rfl, ?_⟩) (by assumption) ?_
            rotate_left 1
            · intro w hSw
              (try dsimp only at hSw)
              (first | (go_simp; done) | (go_simp; with_reducible rfl))
            (try simp only [Act.put, List.getElem_toArray, List.getElem_cons_succ, List.getElem_cons_zero, List.setIfInBounds_toArray, List.set_cons_zero, List.set_cons_succ])
            refine wpAnyH_ready (rs := [3]) (by kernel_rfl) (by simp) ?_
            refine AllReadyH.cons (o := _) rfl (fun K hK => ?_) AllReadyH.nil
            go_simp
            go_at_call 13
            refine (HNU.out _ (by exact V1.dr)).mono ?_
            rintro E W1 ⟨A5, c5, rfl, hs1, hr1, hb1⟩
            have hrb1 := V2.dr.only hb1 (by omega) hwg (by exact V3.size)
            have cv1 := conv_at hs1
            refine hK.out _ _ (asks_only (by assumption) hHeld hsg) (fun hHeld1 => ?_)
            clear hK K
            (try simp only [Act.put, List.getElem_toArray, List.getElem_cons_succ, List.getElem_cons_zero, List.setIfInBounds_toArray, List.set_cons_zero, List.set_cons_succ])
            refine wpAnyH_ready (rs := [4, 8]) (by kernel_rfl) (by simp) ?_
            refine (AllReadyH.cons (o := _) rfl (fun K hK => ?_) (AllReadyH.cons (o := _) rfl (fun K hK => ?_) AllReadyH.nil))
            · go_simp
              (try (rw [cv1]; go_simp))
              refine hK.out _ _ (hHeld1) (fun hHeld11 => ?_)
              clear hK K
              (try simp only [Act.put, List.getElem_toArray, List.getElem_cons_succ, List.getElem_cons_zero, List.setIfInBounds_toArray, List.set_cons_zero, List.set_cons_succ])
              refine wpAnyH_ready (rs := [8]) (by kernel_rfl) (by simp) ?_
              refine AllReadyH.cons (o := _) rfl (fun K hK => ?_) AllReadyH.nil
              go_simp
              go_at_call 12
              refine (HTK.out _ hrb1).mono ?_
              rintro E W2 ⟨A3, c3, rfl, hs2, hrb2, hb2⟩
              have hr2 := hr1.only hb2 (by omega) (by omega)
              have hq2 : Asks s 1 N W2 := keep_q hb2 hsh (keep_q hb1 hsg (by exact V0))
              have hbl2 := below_row (below_row V3.drew hb1 hwg (by exact V3.size)) hb2 hB (Nat.le_trans (by exact V3.size) hb1.size)
              have FIN : Fin w g h s 1 N r.2.1 r.2.2 l3 W2 := ⟨hr2, hrb2, hbl2, hq2⟩
              have cv2 := conv_at hs2
              have cv3 := conv_at (BS.only_row hs1 hrb1 hb2)
              refine hK.out _ _ (asks_only (by assumption) hHeld11 hsh) (fun hHeld2 => ?_)
              clear hK K
              (try simp only [Act.put, List.getElem_toArray, List.getElem_cons_succ, List.getElem_cons_zero, List.setIfInBounds_toArray, List.set_cons_zero, List.set_cons_succ])
              refine wpAnyH_ready (rs := [9]) (by kernel_rfl) (by simp) ?_
              refine AllReadyH.cons (o := _) rfl (fun K hK => ?_) AllReadyH.nil
              go_simp
              (try (rw [cv2]; go_simp))
              refine hK.out _ _ (hHeld2) (fun hHeld12 => ?_)
              clear hK K
              (try simp only [Act.put, List.getElem_toArray, List.getElem_cons_succ, List.getElem_cons_zero, List.setIfInBounds_toArray, List.set_cons_zero, List.set_cons_succ])
              refine wpAnyH_take (i := 10) (oi := _) (v := ?_) rfl (by kernel_rfl) (by kernel_rfl) (by kernel_rfl) (fun _ _ _ h => h) (Or.inl ⟨by rfl, ?_⟩) (by assumption) ?_
              rotate_left 1
              · intro w hSw
                (try dsimp only at hSw)
                (first | (go_simp; done) | (go_simp; with_reducible rfl))
              (try simp only [Act.put, List.getElem_toArray, List.getElem_cons_succ, List.getElem_cons_zero, List.setIfInBounds_toArray, List.set_cons_zero, List.set_cons_succ])
              refine wpAnyH_take (i := 11) (oi := _) (v := ?_) rfl (by kernel_rfl) (by kernel_rfl) (by kernel_rfl) (fun _ _ _ h => h) (Or.inl ⟨by rfl, ?_⟩) (by assumption) ?_
              rotate_left 1
              · intro w hSw
                (try dsimp only at hSw)
                (first | (go_simp; done) | (go_simp; with_reducible rfl))
              (try simp only [Act.put, List.getElem_toArray, List.getElem_cons_succ, List.getElem_cons_zero, List.setIfInBounds_toArray, List.set_cons_zero, List.set_cons_succ])
              refine wpAnyH_done (by kernel_rfl) ?_ _
              obtain ⟨fr, frb, fbel, fq⟩ := (by assumption : Fin w g h s 1 N r.2.1 r.2.2 l3 _)
              have HIV : Inv r.2.1 r.2.2 l3 := HI3.out
              have hlr : (r.2.1).length ≤ 80 := by omega
              generalize r.2.1 = lr at *
              generalize r.2.2 = er at *
              have HNX := Lib.hid (law_next hlt HIV hlr hwg hgh fr frb fbel)
              have hleft := HIV.left
              obtain ⟨A4, c4, x0, _⟩ := frb
              have y0 := blk_cell x0 0
              have y1 := blk_cell x0 1
              simp only [List.getElem?_toArray, List.getElem?_cons_zero, List.getElem?_cons_succ] at y0 y1
              have z0 := (Asks.cells fq).1
              have z1 := (Asks.cells fq).2.1
              have FR := Lib.hid fr
              have HLFT := Lib.hid hleft
              clear x0 fq fbel hleft fr
              have L3N : er = 0 → lr.length = l3.length := fun he => by have := HLFT.out; rw [if_neg (by simpa using he)] at this; omega
              have L3Z : er ≠ 0 → lr.length = 0 := fun he => by have := HLFT.out; rw [if_pos he] at this; omega
              have LN := Lib.hid L3N
              have LZ := Lib.hid L3Z
              clear HLFT L3N L3Z
              rcases Decidable.em (er = 0) with he | he
              · subst he
                have hb9 : ((lr.length : Int) != (l3.length : Int)) = false := by rw [LN.out rfl]; simp
                go_wp2
                go_region_held3 (fun w' => w'.cell? ⟨h, 1, none⟩ = some (.int .i64 0)) (first | exact y1 | assumption)
                  (first
                  | (go_at_call 14; refine (err_any g lr 0 _ (by exact FR.out.dr)).mono ?_; rintro E W5 ⟨rfl, rfl⟩)
                  | (go_at_call 15; refine (rest_any g lr 0 _ (by exact FR.out.dr)).mono ?_; rintro E W5 ⟨rfl, rfl⟩))
                all_goals
                  go_wp2
                  go_roundw
                  case rel => exact HNX.out
                  case measure => simp [intOf]; omega
              · have hb9 : ((lr.length : Int) != 0) = false := by rw [LZ.out he]; rfl
                have hb8 : (er != 0) = true := by rw [bne_iff_ne]; exact he
                clear he
                go_wp2
                go_region_held3 (fun w' => w'.cell? ⟨h, 1, none⟩ = some (.int .i64 er)) (first | exact y1 | assumption)
                  (first
                  | (go_at_call 14; refine (err_any g lr er _ (by exact FR.out.dr)).mono ?_; rintro E W5 ⟨rfl, rfl⟩)
                  | (go_at_call 15; refine (rest_any g lr er _ (by exact FR.out.dr)).mono ?_; rintro E W5 ⟨rfl, rfl⟩))
                all_goals
                  go_wp2
                  go_roundw
                  case rel => exact HNX.out
                  case measure => simp [intOf]; omega
            · go_simp
              go_at_call 12
              refine (HTK.out _ hrb1).mono ?_
              rintro E W2 ⟨A3, c3, rfl, hs2, hrb2, hb2⟩
              have hr2 := hr1.only hb2 (by omega) (by omega)
              have hq2 : Asks s 1 N W2 := keep_q hb2 hsh (keep_q hb1 hsg (by exact V0))
              have hbl2 := below_row (below_row V3.drew hb1 hwg (by exact V3.size)) hb2 hB (Nat.le_trans (by exact V3.size) hb1.size)
              have FIN : Fin w g h s 1 N r.2.1 r.2.2 l3 W2 := ⟨hr2, hrb2, hbl2, hq2⟩
              have cv2 := conv_at hs2
              have cv3 := conv_at (BS.only_row hs1 hrb1 hb2)
              refine hK.out _ _ (asks_only (by assumption) hHeld1 hsh) (fun hHeld2 => ?_)
              clear hK K
              (try simp only [Act.put, List.getElem_toArray, List.getElem_cons_succ, List.getElem_cons_zero, List.setIfInBounds_toArray, List.set_cons_zero, List.set_cons_succ])
              refine wpAnyH_ready (rs := [4, 9]) (by kernel_rfl) (by simp) ?_
              refine (AllReadyH.cons (o := _) rfl (fun K hK => ?_) (AllReadyH.cons (o := _) rfl (fun K hK => ?_) AllReadyH.nil))
              · go_simp
                (try (rw [cv3]; go_simp))
                refine hK.out _ _ (hHeld2) (fun hHeld13 => ?_)
                clear hK K
                (try simp only [Act.put, List.getElem_toArray, List.getElem_cons_succ, List.getElem_cons_zero, List.setIfInBounds_toArray, List.set_cons_zero, List.set_cons_succ])
                refine wpAnyH_ready (rs := [9]) (by kernel_rfl) (by simp) ?_
                refine AllReadyH.cons (o := _) rfl (fun K hK => ?_) AllReadyH.nil
                go_simp
                (try (rw [cv2]; go_simp))
                refine hK.out _ _ (hHeld13) (fun hHeld14 => ?_)
                clear hK K
                (try simp only [Act.put, List.getElem_toArray, List.getElem_cons_succ, List.getElem_cons_zero, List.setIfInBounds_toArray, List.set_cons_zero, List.set_cons_succ])
                refine wpAnyH_take (i := 10) (oi := _) (v := ?_) rfl (by kernel_rfl) (by kernel_rfl) (by kernel_rfl) (fun _ _ _ h => h) (Or.inl ⟨by rfl, ?_⟩) (by assumption) ?_
                rotate_left 1
                · intro w hSw
                  (try dsimp only at hSw)
                  (first | (go_simp; done) | (go_simp; with_reducible rfl))
                (try simp only [Act.put, List.getElem_toArray, List.getElem_cons_succ, List.getElem_cons_zero, List.setIfInBounds_toArray, List.set_cons_zero, List.set_cons_succ])
                refine wpAnyH_take (i := 11) (oi := _) (v := ?_) rfl (by kernel_rfl) (by kernel_rfl) (by kernel_rfl) (fun _ _ _ h => h) (Or.inl ⟨by rfl, ?_⟩) (by assumption) ?_
                rotate_left 1
                · intro w hSw
                  (try dsimp only at hSw)
                  (first | (go_simp; done) | (go_simp; with_reducible rfl))
                (try simp only [Act.put, List.getElem_toArray, List.getElem_cons_succ, List.getElem_cons_zero, List.setIfInBounds_toArray, List.set_cons_zero, List.set_cons_succ])
                refine wpAnyH_done (by kernel_rfl) ?_ _
                obtain ⟨fr, frb, fbel, fq⟩ := (by assumption : Fin w g h s 1 N r.2.1 r.2.2 l3 _)
                have HIV : Inv r.2.1 r.2.2 l3 := HI3.out
                have hlr : (r.2.1).length ≤ 80 := by omega
                generalize r.2.1 = lr at *
                generalize r.2.2 = er at *
                have HNX := Lib.hid (law_next hlt HIV hlr hwg hgh fr frb fbel)
                have hleft := HIV.left
                obtain ⟨A4, c4, x0, _⟩ := frb
                have y0 := blk_cell x0 0
                have y1 := blk_cell x0 1
                simp only [List.getElem?_toArray, List.getElem?_cons_zero, List.getElem?_cons_succ] at y0 y1
                have z0 := (Asks.cells fq).1
                have z1 := (Asks.cells fq).2.1
                have FR := Lib.hid fr
                have HLFT := Lib.hid hleft
                clear x0 fq fbel hleft fr
                have L3N : er = 0 → lr.length = l3.length := fun he => by have := HLFT.out; rw [if_neg (by simpa using he)] at this; omega
                have L3Z : er ≠ 0 → lr.length = 0 := fun he => by have := HLFT.out; rw [if_pos he] at this; omega
                have LN := Lib.hid L3N
                have LZ := Lib.hid L3Z
                clear HLFT L3N L3Z
                rcases Decidable.em (er = 0) with he | he
                · subst he
                  have hb9 : ((lr.length : Int) != (l3.length : Int)) = false := by rw [LN.out rfl]; simp
                  go_wp2
                  go_region_held3 (fun w' => w'.cell? ⟨h, 1, none⟩ = some (.int .i64 0)) (first | exact y1 | assumption)
                    (first
                    | (go_at_call 14; refine (err_any g lr 0 _ (by exact FR.out.dr)).mono ?_; rintro E W5 ⟨rfl, rfl⟩)
                    | (go_at_call 15; refine (rest_any g lr 0 _ (by exact FR.out.dr)).mono ?_; rintro E W5 ⟨rfl, rfl⟩))
                  all_goals
                    go_wp2
                    go_roundw
                    case rel => exact HNX.out
                    case measure => simp [intOf]; omega
                · have hb9 : ((lr.length : Int) != 0) = false := by rw [LZ.out he]; rfl
                  have hb8 : (er != 0) = true := by rw [bne_iff_ne]; exact he
                  clear he
                  go_wp2
                  go_region_held3 (fun w' => w'.cell? ⟨h, 1, none⟩ = some (.int .i64 er)) (first | exact y1 | assumption)
                    (first
                    | (go_at_call 14; refine (err_any g lr er _ (by exact FR.out.dr)).mono ?_; rintro E W5 ⟨rfl, rfl⟩)
                    | (go_at_call 15; refine (rest_any g lr er _ (by exact FR.out.dr)).mono ?_; rintro E W5 ⟨rfl, rfl⟩))
                  all_goals
                    go_wp2
                    go_roundw
                    case rel => exact HNX.out
                    case measure => simp [intOf]; omega
              · go_simp
                (try (rw [cv2]; go_simp))
                refine hK.out _ _ (hHeld2) (fun hHeld15 => ?_)
                clear hK K
                (try simp only [Act.put, List.getElem_toArray, List.getElem_cons_succ, List.getElem_cons_zero, List.setIfInBounds_toArray, List.set_cons_zero, List.set_cons_succ])
                refine wpAnyH_ready (rs := [4]) (by kernel_rfl) (by simp) ?_
                refine AllReadyH.cons (o := _) rfl (fun K hK => ?_) AllReadyH.nil
                go_simp
                (try (rw [cv3]; go_simp))
                refine hK.out _ _ (hHeld15) (fun hHeld16 => ?_)
                clear hK K
                (try simp only [Act.put, List.getElem_toArray, List.getElem_cons_succ, List.getElem_cons_zero, List.setIfInBounds_toArray, List.set_cons_zero, List.set_cons_succ])
                refine wpAnyH_take (i := 10) (oi := _) (v := ?_) rfl (by kernel_rfl) (by kernel_rfl) (by kernel_rfl) (fun _ _ _ h => h) (Or.inl ⟨by rfl, ?_⟩) (by assumption) ?_
                rotate_left 1
                · intro w hSw
                  (try dsimp only at hSw)
                  (first | (go_simp; done) | (go_simp; with_reducible rfl))
                (try simp only [Act.put, List.getElem_toArray, List.getElem_cons_succ, List.getElem_cons_zero, List.setIfInBounds_toArray, List.set_cons_zero, List.set_cons_succ])
                refine wpAnyH_take (i := 11) (oi := _) (v := ?_) rfl (by kernel_rfl) (by kernel_rfl) (by kernel_rfl) (fun _ _ _ h => h) (Or.inl ⟨by rfl, ?_⟩) (by assumption) ?_
                rotate_left 1
                · intro w hSw
                  (try dsimp only at hSw)
                  (first | (go_simp; done) | (go_simp; with_reducible rfl))
                (try simp only [Act.put, List.getElem_toArray, List.getElem_cons_succ, List.getElem_cons_zero, List.setIfInBounds_toArray, List.set_cons_zero, List.set_cons_succ])
                refine wpAnyH_done (by kernel_rfl) ?_ _
                obtain ⟨fr, frb, fbel, fq⟩ := (by assumption : Fin w g h s 1 N r.2.1 r.2.2 l3 _)
                have HIV : Inv r.2.1 r.2.2 l3 := HI3.out
                have hlr : (r.2.1).length ≤ 80 := by omega
                generalize r.2.1 = lr at *
                generalize r.2.2 = er at *
                have HNX := Lib.hid (law_next hlt HIV hlr hwg hgh fr frb fbel)
                have hleft := HIV.left
                obtain ⟨A4, c4, x0, _⟩ := frb
                have y0 := blk_cell x0 0
                have y1 := blk_cell x0 1
                simp only [List.getElem?_toArray, List.getElem?_cons_zero, List.getElem?_cons_succ] at y0 y1
                have z0 := (Asks.cells fq).1
                have z1 := (Asks.cells fq).2.1
                have FR := Lib.hid fr
                have HLFT := Lib.hid hleft
                clear x0 fq fbel hleft fr
                have L3N : er = 0 → lr.length = l3.length := fun he => by have := HLFT.out; rw [if_neg (by simpa using he)] at this; omega
                have L3Z : er ≠ 0 → lr.length = 0 := fun he => by have := HLFT.out; rw [if_pos he] at this; omega
                have LN := Lib.hid L3N
                have LZ := Lib.hid L3Z
                clear HLFT L3N L3Z
                rcases Decidable.em (er = 0) with he | he
                · subst he
                  have hb9 : ((lr.length : Int) != (l3.length : Int)) = false := by rw [LN.out rfl]; simp
                  go_wp2
                  go_region_held3 (fun w' => w'.cell? ⟨h, 1, none⟩ = some (.int .i64 0)) (first | exact y1 | assumption)
                    (first
                    | (go_at_call 14; refine (err_any g lr 0 _ (by exact FR.out.dr)).mono ?_; rintro E W5 ⟨rfl, rfl⟩)
                    | (go_at_call 15; refine (rest_any g lr 0 _ (by exact FR.out.dr)).mono ?_; rintro E W5 ⟨rfl, rfl⟩))
                  all_goals
                    go_wp2
                    go_roundw
                    case rel => exact HNX.out
                    case measure => simp [intOf]; omega
                · have hb9 : ((lr.length : Int) != 0) = false := by rw [LZ.out he]; rfl
                  have hb8 : (er != 0) = true := by rw [bne_iff_ne]; exact he
                  clear he
                  go_wp2
                  go_region_held3 (fun w' => w'.cell? ⟨h, 1, none⟩ = some (.int .i64 er)) (first | exact y1 | assumption)
                    (first
                    | (go_at_call 14; refine (err_any g lr er _ (by exact FR.out.dr)).mono ?_; rintro E W5 ⟨rfl, rfl⟩)
                    | (go_at_call 15; refine (rest_any g lr er _ (by exact FR.out.dr)).mono ?_; rintro E W5 ⟨rfl, rfl⟩))
                  all_goals
                    go_wp2
                    go_roundw
                    case rel => exact HNX.out
                    case measure => simp [intOf]; omega
          · skip
            have hk0 : ((K : Int) == 0) = false := by simpa using hK0
            have hk1 : ((K : Int) == 1) = false := by simpa using hK1
            have FIN : Fin w g h wr.heap.size K N l1 e l2 (wr.alloc (.cells #[.int .i64 K, .int .i64 N] 32)) := ⟨V1, V2, V3, V0⟩
            have hinv := HI.out
            obtain ⟨fr, frb, fbel, fq⟩ := (by assumption : Fin w g h wr.heap.size K N l1 e l2 _)
            have HIV : Inv l1 e l2 := hinv
            have hlr : l1.length ≤ 80 := by exact hl80
            clear HI HR HRB HBEL FIN hinv V0 V1 V2 V3
            generalize l1 = lr at *
            generalize e = er at *
            have HNX := Lib.hid (law_next hlt HIV hlr hwg hgh fr frb fbel)
            have hleft := HIV.left
            obtain ⟨A4, c4, x0, _⟩ := frb
            have y0 := blk_cell x0 0
            have y1 := blk_cell x0 1
            simp only [List.getElem?_toArray, List.getElem?_cons_zero, List.getElem?_cons_succ] at y0 y1
            have z0 := (Asks.cells fq).1
            have z1 := (Asks.cells fq).2.1
            have FR := Lib.hid fr
            have HLFT := Lib.hid hleft
            clear x0 fq fbel hleft fr
            have L3N : er = 0 → lr.length = l2.length := fun he => by have := HLFT.out; rw [if_neg (by simpa using he)] at this; omega
            have L3Z : er ≠ 0 → lr.length = 0 := fun he => by have := HLFT.out; rw [if_pos he] at this; omega
            have LN := Lib.hid L3N
            have LZ := Lib.hid L3Z
            clear HLFT L3N L3Z
            rcases Decidable.em (er = 0) with he | he
            · subst he
              have hb9 : ((lr.length : Int) != (l2.length : Int)) = false := by rw [LN.out rfl]; simp
              go_wp2
              go_region_held3 (fun w' => w'.cell? ⟨h, 1, none⟩ = some (.int .i64 0)) (first | exact y1 | assumption)
                (first
                | (go_at_call 14; refine (err_any g lr 0 _ (by exact FR.out.dr)).mono ?_; rintro E W5 ⟨rfl, rfl⟩)
                | (go_at_call 15; refine (rest_any g lr 0 _ (by exact FR.out.dr)).mono ?_; rintro E W5 ⟨rfl, rfl⟩))
              all_goals
                go_wp2
                go_roundw
                case rel => exact HNX.out
                case measure => simp [intOf]; omega
            · have hb9 : ((lr.length : Int) != 0) = false := by rw [LZ.out he]; rfl
              have hb8 : (er != 0) = true := by rw [bne_iff_ne]; exact he
              clear he
              go_wp2
              go_region_held3 (fun w' => w'.cell? ⟨h, 1, none⟩ = some (.int .i64 er)) (first | exact y1 | assumption)
                (first
                | (go_at_call 14; refine (err_any g lr er _ (by exact FR.out.dr)).mono ?_; rintro E W5 ⟨rfl, rfl⟩)
                | (go_at_call 15; refine (rest_any g lr er _ (by exact FR.out.dr)).mono ?_; rintro E W5 ⟨rfl, rfl⟩))
              all_goals
                go_wp2
                go_roundw
                case rel => exact HNX.out
                case measure => simp [intOf]; omega
    · obtain rfl : i = n2 := by omega
      have BEL := HBEL.out
      go_wp2_with fail
      refine (err_nil _).mono ?_
      rintro E W5 ⟨rfl, rfl⟩
      go_wp2_with fail
      refine (num_nil _).mono ?_
      rintro E W6 ⟨rfl, hb6⟩
      go_wp2_with fail
      refine (bytes_nil _).mono ?_
      rintro E W7 ⟨⟨A7, c7, rfl⟩, hb7⟩
      go_wp2_with fail
      refine (rest_nil _).mono ?_
      rintro E W8 ⟨rfl, rfl⟩
      go_wp2_with fail
      refine (awake1_any _).mono ?_
      rintro E W9 ⟨rfl, hb9⟩
      go_wp2
      go_ret
      exact ⟨rfl, below_fin BEL hb6 hb7 hb9⟩
end Go.Proofs.Ythmjncfjaopfcaa
