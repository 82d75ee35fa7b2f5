/-
  LinesPrint's walk.
-/
import Derived.Test.YtcaogiaoabdkdaaDoorZLrE
import Derived.Test.YtcaogiaoabdkdaaDoorZLnF
import Derived.Test.YtcaogiaoabdkdaaDoorZScK
import Derived.Test.YtcaogiaoabdkdaaDoorZLqO
namespace Go.Proofs.YtcaogiaoabdkdaaDoor
open Go.RowKit Go
set_option linter.unusedVariables false
set_option linter.unusedSimpArgs false
set_option maxRecDepth 1000000
set_option maxHeartbeats 4000000
def LqR9 (w : World) (cl : List Ac) (iv av mv : Value) (wr : World) : Prop := ∃ (k : Nat) (s : List Nat) (mb : Bool), iv = .int .i64 (k : Int) ∧ av = .string (str s) ∧ mv = .bool mb ∧ k ≤ cl.length ∧ (mb = true → allLn cl k ∧ s = printL (cl.take k)) ∧ (mb = false → ¬ allLn cl k) ∧ s.length ≤ k * 6311 ∧ Below w.heap.size w wr
theorem getD_mem2 {Q : Nat → Prop} {l : List Nat} (h0 : Q 0) (h : ∀ c ∈ l, Q c) (i : Nat) : Q (l.getD i 0) := by
  rw [List.getD_eq_getElem?_getD]
  by_cases hi : i < l.length
  · rw [List.getElem?_eq_getElem hi]; exact h _ (List.getElem_mem hi)
  · rw [List.getElem?_eq_none (by omega)]; exact h0
theorem mem_getD2 {Q : Nat → Prop} {l : List Nat} (h : ∀ i, Q (l.getD i 0)) : ∀ c ∈ l, Q c := fun c hc => by
  obtain ⟨i, hi, rfl⟩ := List.getElem_of_mem hc
  have := h i
  rw [List.getD_eq_getElem?_getD, List.getElem?_eq_getElem hi] at this
  exact this
theorem acV_one {W : World} {g : Nat} {a : Ac} {A : Option Addr} {c : Nat} {t : TypeId} (hE : W.heap[g]? = some (.cells #[.int .i64 a.kind, .bool a.yes, .int .i64 a.which, .int .i64 a.k, .int .i64 a.n, .int .i64 a.pos, .slice A a.b.length c] t (0, 0))) (hs : BS W W.heap.size A a.b.length c a.b) (hz : A = none → c = 0) : AcV W (some ⟨g, 0, none⟩) 1 [a] :=
  ⟨rfl, fun _ => ⟨g, 0, rfl, (Array.getElem?_eq_some_iff.1 hE).1, fun i hi => by
    obtain rfl : i = 0 := by simp at hi; exact hi
    refine ⟨A, c, fun j v hj => ?_, hs, hz⟩
    rw [show 0 + 0 * 7 + j = j by omega, blk_cell hE j]
    have e : acL (aAt [a] 0) A (aAt [a] 0).b.length c = [.int .i64 a.kind, .bool a.yes, .int .i64 a.which, .int .i64 a.k, .int .i64 a.n, .int .i64 a.pos, .slice A a.b.length c] := rfl
    rw [e] at hj
    simpa using hj⟩⟩
theorem printL_byte (l : List Ac) (h : ∀ a ∈ l, mayLn a = true) (hb : ∀ a ∈ l, ∀ c ∈ a.b, c < 256) : ∀ c ∈ printL l, c < 256 := by
  intro c hc
  unfold printL at hc
  rw [List.mem_flatMap] at hc
  obtain ⟨a, ha, hc⟩ := hc
  rw [List.mem_append, List.mem_singleton] at hc
  rcases hc with hc | hc
  · exact lineA_byte (h a ha) (hb a ha) c hc
  · omega
theorem linesPrint_any (A1 : Option Addr) (n1 c1 : Nat) (l : List Ac) (w : World) (hv : AcV w A1 n1 l) (hn1 : n1 ≤ 9223372036854775807) (hK : Kn w) (hT : Tn w) :
    Calls Tryd.prog 3 #[.slice A1 n1 c1] w (SameTo w true) := by
  have HC := Lib.hid (cut27_any A1 n1 c1 10 l w hv hn1 (by omega))
  have HF := Lib.hid (cutL_len 10 l)
  have HFB := Lib.hid (cutL_b 10 l)
  generalize cutL 10 l = cl at *
  have HK := Lib.hid hK
  have HT := Lib.hid hT
  clear hv hK hT
  go_enter Tryd.func3, Tryd.ntmps3
  go_wp2_with fail
  refine HC.out.mono ?_
  rintro e w1 ⟨v1, rfl, ho1, hbw1⟩
  obtain ⟨A3, c3, rfl, hv1, _, _, _⟩ := ho1.acV (Nat.le_refl _) hbw1.size
  obtain ⟨m, hm⟩ : ∃ m, cl.length = m := ⟨_, rfl⟩
  have HM := Lib.hid hm
  have HV1 : Hid (AcV w1 A3 m cl) := Lib.hid (by rw [← hm]; exact hv1)
  have HR0 : Hid (LqR9 w1 cl (.int .i64 0) (.string ⟨#[]⟩) (.bool true) w1) := Lib.hid ⟨0, [], true, rfl, rfl, rfl, Nat.zero_le _, fun _ => ⟨fun i hi => absurd hi (by omega), rfl⟩, (fun h => by cases h), Nat.zero_le _, Below.refl _ _⟩
  have HBY := Lib.hid (fun i => HV1.out.byte i)
  rw [hm] at HF HFB ⊢
  have hm9 : m ≤ 10 := HF.out
  clear ho1 hv1 hm HC
  go_wp2_with fail
  go_loopw [18, 3, 4] (fun iv av mv wr => LqR9 w1 cl iv av mv wr) (fun iv _ _ _ => (m - intOf iv).toNat)
  case atStart => exact HR0.out
  case round =>
    clear HR0
    obtain ⟨k, s, mb, rfl, rfl, rfl, hk, hmt, hmf, hsl, hb⟩ := hrel
    rw [HM.out] at hk
    have HB := Lib.hid hb
    have HMT := Lib.hid hmt
    have HMF := Lib.hid hmf
    have HSL := Lib.hid hsl
    clear hmt hmf hsl hb
    by_cases hlt : k < m
    · obtain ⟨b, o, A5, c5, rfl, hb0, q0, q1, q2, q3, q4, q5, q6, hs1, hz1⟩ := HV1.out.at_ (show k < m by omega)
      have p0 : wr.cell? ⟨b, o + k * 7, none⟩ = some (.int .i64 (aAt cl k).kind) := (HB.out.cell (p := ⟨b, o + k * 7, none⟩) hb0).trans q0
      have p1 : wr.cell? ⟨b, o + k * 7 + 1, none⟩ = some (.bool (aAt cl k).yes) := (HB.out.cell (p := ⟨b, o + k * 7 + 1, none⟩) hb0).trans q1
      have p2 : wr.cell? ⟨b, o + k * 7 + 2, none⟩ = some (.int .i64 (aAt cl k).which) := (HB.out.cell (p := ⟨b, o + k * 7 + 2, none⟩) hb0).trans q2
      have p3 : wr.cell? ⟨b, o + k * 7 + 3, none⟩ = some (.int .i64 (aAt cl k).k) := (HB.out.cell (p := ⟨b, o + k * 7 + 3, none⟩) hb0).trans q3
      have p4 : wr.cell? ⟨b, o + k * 7 + 4, none⟩ = some (.int .i64 (aAt cl k).n) := (HB.out.cell (p := ⟨b, o + k * 7 + 4, none⟩) hb0).trans q4
      have p5 : wr.cell? ⟨b, o + k * 7 + 5, none⟩ = some (.int .i64 (aAt cl k).pos) := (HB.out.cell (p := ⟨b, o + k * 7 + 5, none⟩) hb0).trans q5
      have p6 : wr.cell? ⟨b, o + k * 7 + 6, none⟩ = some (.slice A5 (aAt cl k).b.length c5) := (HB.out.cell (p := ⟨b, o + k * 7 + 6, none⟩) hb0).trans q6
      have hlt1 : b < wr.heap.size := Nat.lt_of_lt_of_le hb0 HB.out.size
      have HBB := Lib.hid (HBY.out k)
      have HBL := Lib.hid (HFB.out k hlt)
      have HSN := Lib.hid (printL_snoc cl k (by rw [HM.out]; exact hlt))
      obtain ⟨bb, hbb⟩ : ∃ bb, (aAt cl k).b = bb := ⟨_, rfl⟩
      have HA : Hid (∃ a, aAt cl k = a) := Lib.hid ⟨_, rfl⟩
      rw [hbb] at p6 hs1 HBB HBL
      obtain ⟨n5, hn5⟩ : ∃ n5, bb.length = n5 := ⟨_, rfl⟩
      have HN5 := Lib.hid hn5
      rw [hn5] at p6 hs1 HBL
      have HS1 := Lib.hid hs1
      have HZ1 := Lib.hid hz1
      clear q0 q1 q2 q3 q4 q5 q6 hs1 hz1 hb0 hn5 HA
      obtain ⟨a, ha⟩ : ∃ a, aAt cl k = a := ⟨_, rfl⟩
      have HAA := Lib.hid ha
      rw [ha] at p0 p1 p2 p3 p4 p5 hbb HSN
      clear ha
      obtain ⟨K, y, z1, z2, z3, z4, bx⟩ := a
      dsimp only at p0 p1 p2 p3 p4 p5 hbb
      subst hbb
      have HB4 : Hid (Below wr.heap.size wr (wr.alloc (.cells #[.int .i64 K, .bool y, .int .i64 z1, .int .i64 z2, .int .i64 z3, .int .i64 z4, .slice A5 n5 c5] 26))) := Lib.hid (al1 _ _)
      have HE4 : Hid ((wr.alloc (.cells #[.int .i64 K, .bool y, .int .i64 z1, .int .i64 z2, .int .i64 z3, .int .i64 z4, .slice A5 n5 c5] 26)).heap[wr.heap.size]? = some (.cells #[.int .i64 K, .bool y, .int .i64 z1, .int .i64 z2, .int .i64 z3, .int .i64 z4, .slice A5 n5 c5] 26 (0, 0))) := Lib.hid (heap_alloc_new _ _)
      obtain ⟨W4, hW4⟩ : ∃ W4, wr.alloc (.cells #[.int .i64 K, .bool y, .int .i64 z1, .int .i64 z2, .int .i64 z3, .int .i64 z4, .slice A5 n5 c5] 26) = W4 := ⟨_, rfl⟩
      rw [hW4] at HB4 HE4
      have HZ4 : Hid (wr.heap.size < W4.heap.size) := Lib.hid (Array.getElem?_eq_some_iff.1 HE4.out).1
      have HBW4 : Hid (Below w1.heap.size w1 W4) := Lib.hid (HB.out.trans (HB4.out.mono HB.out.size))
      have g0 : W4.cell? ⟨wr.heap.size, 0, none⟩ = some (.int .i64 K) := blk_cell HE4.out 0
      have g1 : W4.cell? ⟨wr.heap.size, 1, none⟩ = some (.bool y) := blk_cell HE4.out 1
      have g2 : W4.cell? ⟨wr.heap.size, 2, none⟩ = some (.int .i64 z1) := blk_cell HE4.out 2
      have g3 : W4.cell? ⟨wr.heap.size, 3, none⟩ = some (.int .i64 z2) := blk_cell HE4.out 3
      have g4 : W4.cell? ⟨wr.heap.size, 4, none⟩ = some (.int .i64 z3) := blk_cell HE4.out 4
      have g5 : W4.cell? ⟨wr.heap.size, 5, none⟩ = some (.int .i64 z4) := blk_cell HE4.out 5
      have g6 : W4.cell? ⟨wr.heap.size, 6, none⟩ = some (.slice A5 n5 c5) := blk_cell HE4.out 6
      obtain ⟨W5, hW5⟩ : ∃ W5, W4.alloc (.cells #[.int .i64 K, .bool y, .int .i64 z1, .int .i64 z2, .int .i64 z3, .int .i64 z4, .slice A5 n5 c5] 26) = W5 := ⟨_, rfl⟩
      have HB5 : Hid (Below W4.heap.size W4 W5) := Lib.hid (by rw [← hW5]; exact al1 _ _)
      have HE5 : Hid (W5.heap[W4.heap.size]? = some (.cells #[.int .i64 K, .bool y, .int .i64 z1, .int .i64 z2, .int .i64 z3, .int .i64 z4, .slice A5 n5 c5] 26 (0, 0))) := Lib.hid (by rw [← hW5]; exact heap_alloc_new _ _)
      have HBW5 : Hid (Below w1.heap.size w1 W5) := Lib.hid (HBW4.out.trans (HB5.out.mono HBW4.out.size))
      have HOU : Hid (Calls Tryd.prog 8 #[.slice (some ⟨W4.heap.size, 0, none⟩) 1 1] W5 (GivesA 30 W5 [⟨K, y, z1, z2, z3, z4, bx⟩])) := Lib.hid (ours27_any _ 1 1 _ W5 (acV_one (a := ⟨K, y, z1, z2, z3, z4, bx⟩) (A := A5) (c := c5) (t := 26) (by dsimp only; rw [HN5.out]; exact HE5.out) (by dsimp only; rw [HN5.out]; exact (HS1.out.below HBW5.out).more HBW5.out.size) HZ1.out) (by omega) (fun i => aAt_of (Q := fun a => a.b.length < 1000000) (fun a ha => by
        rw [List.mem_singleton] at ha
        subst ha
        have := HN5.out
        have := HBL.out
        dsimp only
        omega) (by decide) i))
      go_wp2_with fail
      refine HOU.out.mono ?_
      rintro e w6 ⟨v6, rfl, ho6, hb6⟩
      obtain ⟨A6, c6, rfl, hv6, _, _, _⟩ := ho6.acV (Nat.le_refl _) hb6.size
      have HBW6 : Hid (Below w1.heap.size w1 w6) := Lib.hid (HBW5.out.trans (hb6.mono HBW5.out.size))
      have HB46 : Hid (Below W4.heap.size W4 w6) := Lib.hid (HB5.out.trans (hb6.mono HB5.out.size))
      obtain ⟨b7, o7, A7, c7, rfl, hb7, r0, r1, r2, r3, r4, r5, r6, hs7, hz7⟩ := hv6.at_ (i := 0) (show 0 < 1 by omega)
      have ea : aAt [(⟨K, y, z1, z2, z3, z4, bx⟩ : Ac)] 0 = ⟨K, y, z1, z2, z3, z4, bx⟩ := rfl
      rw [ea] at r0 r1 r2 r3 r4 r5 r6 hs7
      dsimp only at r0 r1 r2 r3 r4 r5 r6 hs7
      have hl1 : [(⟨K, y, z1, z2, z3, z4, bx⟩ : Ac)].length = 1 := rfl
      rw [hl1]
      rw [HN5.out] at r6 hs7
      simp only [Nat.zero_mul, Nat.add_zero] at r0 r1 r2 r3 r4 r5 r6
      have HPLN := Lib.hid (pline_any K y z1 z2 z3 z4 A7 n5 c7 bx w6 hs7 (HT.out.below (hbw1.trans (HBW6.out.mono hbw1.size))) (HK.out.below (hbw1.trans (HBW6.out.mono hbw1.size))))
      clear ho6 hb6 hv6 hs7 hz7 ea hl1 g0 g1 g2 g3 g4 g5 g6 p0 p1 p2 p3 p4 p5 p6 hW4 hW5
      go_wp2_with fail
      refine HPLN.out.mono ?_
      rintro e w7 h7
      have HMY : Hid (∀ W, Calls Tryd.prog 9 #[.agg #[.int .i64 K, .bool y, .int .i64 z1, .int .i64 z2, .int .i64 z3, .int .i64 z4, .slice A5 n5 c5]] W fun e w' => e = .returned (.bool (mayLn ⟨K, y, z1, z2, z3, z4, bx⟩)) ∧ Below W.heap.size W w') := Lib.hid (fun W => rmay31_any K y z1 z2 z3 z4 A5 n5 c5 bx HN5.out (by have := HBL.out; omega) W)
      rcases h7 with ⟨hmy, rfl, hb7⟩ | ⟨hmy, rfl, hb7⟩
      · have HBW7 : Hid (Below w1.heap.size w1 w7) := Lib.hid (HBW6.out.trans (hb7.mono HBW6.out.size))
        have HB47 : Hid (Below W4.heap.size W4 w7) := Lib.hid (HB46.out.trans (hb7.mono HB46.out.size))
        have hz4 := HZ4.out
        have g0 : w7.cell? ⟨wr.heap.size, 0, none⟩ = some (.int .i64 K) := (HB47.out.cell (p := ⟨wr.heap.size, 0, none⟩) hz4).trans (blk_cell HE4.out 0)
        have g1 : w7.cell? ⟨wr.heap.size, 1, none⟩ = some (.bool y) := (HB47.out.cell (p := ⟨wr.heap.size, 1, none⟩) hz4).trans (blk_cell HE4.out 1)
        have g2 : w7.cell? ⟨wr.heap.size, 2, none⟩ = some (.int .i64 z1) := (HB47.out.cell (p := ⟨wr.heap.size, 2, none⟩) hz4).trans (blk_cell HE4.out 2)
        have g3 : w7.cell? ⟨wr.heap.size, 3, none⟩ = some (.int .i64 z2) := (HB47.out.cell (p := ⟨wr.heap.size, 3, none⟩) hz4).trans (blk_cell HE4.out 3)
        have g4 : w7.cell? ⟨wr.heap.size, 4, none⟩ = some (.int .i64 z3) := (HB47.out.cell (p := ⟨wr.heap.size, 4, none⟩) hz4).trans (blk_cell HE4.out 4)
        have g5 : w7.cell? ⟨wr.heap.size, 5, none⟩ = some (.int .i64 z4) := (HB47.out.cell (p := ⟨wr.heap.size, 5, none⟩) hz4).trans (blk_cell HE4.out 5)
        have g6 : w7.cell? ⟨wr.heap.size, 6, none⟩ = some (.slice A5 n5 c5) := (HB47.out.cell (p := ⟨wr.heap.size, 6, none⟩) hz4).trans (blk_cell HE4.out 6)
        clear hb7 r0 r1 r2 r3 r4 r5 r6
        rw [hmy] at HMY
        go_wp2_with fail
        refine (HMY.out _).mono ?_
        rintro e w8 ⟨rfl, hb8⟩
        have HBW8 : Hid (Below w1.heap.size w1 w8) := Lib.hid (HBW7.out.trans (hb8.mono HBW7.out.size))
        have HB48 : Hid (Below W4.heap.size W4 w8) := Lib.hid (HB47.out.trans (hb8.mono HB47.out.size))
        clear g0 g1 g2 g3 g4 g5 g6 hb8
        have g0 : w8.cell? ⟨wr.heap.size, 0, none⟩ = some (.int .i64 K) := (HB48.out.cell (p := ⟨wr.heap.size, 0, none⟩) hz4).trans (blk_cell HE4.out 0)
        have g1 : w8.cell? ⟨wr.heap.size, 1, none⟩ = some (.bool y) := (HB48.out.cell (p := ⟨wr.heap.size, 1, none⟩) hz4).trans (blk_cell HE4.out 1)
        have g2 : w8.cell? ⟨wr.heap.size, 2, none⟩ = some (.int .i64 z1) := (HB48.out.cell (p := ⟨wr.heap.size, 2, none⟩) hz4).trans (blk_cell HE4.out 2)
        have g3 : w8.cell? ⟨wr.heap.size, 3, none⟩ = some (.int .i64 z2) := (HB48.out.cell (p := ⟨wr.heap.size, 3, none⟩) hz4).trans (blk_cell HE4.out 3)
        have g4 : w8.cell? ⟨wr.heap.size, 4, none⟩ = some (.int .i64 z3) := (HB48.out.cell (p := ⟨wr.heap.size, 4, none⟩) hz4).trans (blk_cell HE4.out 4)
        have g5 : w8.cell? ⟨wr.heap.size, 5, none⟩ = some (.int .i64 z4) := (HB48.out.cell (p := ⟨wr.heap.size, 5, none⟩) hz4).trans (blk_cell HE4.out 5)
        have g6 : w8.cell? ⟨wr.heap.size, 6, none⟩ = some (.slice A5 n5 c5) := (HB48.out.cell (p := ⟨wr.heap.size, 6, none⟩) hz4).trans (blk_cell HE4.out 6)
        have hA : mayA ⟨K, y, z1, z2, z3, z4, bx⟩ = true := by unfold mayLn at hmy; rw [Bool.and_eq_true] at hmy; exact hmy.1
        obtain ⟨kd, y1, y2, y3, y4, hkd, hy1, hy2, hy3, hy4, hbl, e0, e1, e2, e3, e4⟩ := mayA_nat hA
        dsimp only at e0 e1 e2 e3 e4 hbl
        subst e0 e1 e2 e3 e4
        have HLN := Lib.hid (rline_any kd y1 y2 y3 y4 y A5 n5 c5 bx w8 hkd (by omega) (by omega) (by omega) (by omega) ((HS1.out.below HBW8.out).more HBW8.out.size) (by have := HN5.out; omega))
        have hll := lineA_len hmy
        have hlb := lineA_byte hmy (mem_getD2 HBB.out)
        have HMYA := Lib.hid hmy
        obtain ⟨la, hla⟩ : ∃ la, lineA ⟨kd, y, y1, y2, y3, y4, bx⟩ = la := ⟨_, rfl⟩
        rw [hla] at HLN hll hlb HSN ⊢
        have hq := str_toList (l := la) (m := la) (fun i => getD_mem2 (Q := fun c => c < 256) (by omega) hlb i) (fun i => getD_mem2 (Q := fun c => c < 256) (by omega) hlb i)
        rw [decide_eq_true rfl] at hq
        obtain ⟨s2, hs2⟩ : ∃ s2, s ++ la = s2 := ⟨_, rfl⟩
        have e1 : str s ++ str la = str s2 := by rw [← hs2]; exact str_app s la
        have hs9 := HSL.out
        have hl2 : s2.length = s.length + la.length := by rw [← hs2, List.length_append]
        have z1 : (str s).size + (str la).size ≤ 9223372036854775807 := by rw [str_size, str_size]; omega
        have z2 : (str s2).size + 1 ≤ 9223372036854775807 := by rw [str_size]; omega
        obtain ⟨s3, hs3⟩ : ∃ s3, s2 ++ [10] = s3 := ⟨_, rfl⟩
        have e2 : str s2 ++ (⟨#[10]⟩ : ByteArray) = str s3 := by rw [← hs3]; exact str_app s2 [10]
        have HFI : Hid (∀ W, Below w1.heap.size w1 W → LqR9 w1 cl (.int .i64 ((k : Int) + 1)) (.string (str s3)) (.bool mb) W) := Lib.hid (fun W hW => ⟨k + 1, s3, mb, rfl, rfl, rfl, by rw [HM.out]; omega, fun h => by
          obtain ⟨h1, h2⟩ := HMT.out h
          refine ⟨fun i hi => ?_, ?_⟩
          · by_cases e : i = k
            · subst e; rw [HAA.out]; exact HMYA.out
            · exact h1 i (by omega)
          · rw [HSN.out, ← h2, ← hs3, ← hs2, List.append_assoc], fun h h2 => HMF.out h (fun i hi => h2 i (by omega)), by rw [← hs3, List.length_append, hl2]; simp; omega, hW⟩)
        clear hmy hA hbl hla hs2 hs3 hlb hs9 hl2 hll
        go_wp2_with fail
        refine HLN.out.mono ?_
        rintro e w9 ⟨rfl, hb9⟩
        have HFJ := Lib.hid (HFI.out w9 (HBW8.out.trans (hb9.mono HBW8.out.size)))
        clear hb9 g0 g1 g2 g3 g4 g5 g6
        go_wp2
        go_roundw
        case rel => exact HFJ.out
        case measure => simp [intOf]; omega
      · have HBW7 : Hid (Below w1.heap.size w1 w7) := Lib.hid (HBW6.out.trans (hb7.mono HBW6.out.size))
        have HB47 : Hid (Below W4.heap.size W4 w7) := Lib.hid (HB46.out.trans (hb7.mono HB46.out.size))
        have hz4 := HZ4.out
        have g0 : w7.cell? ⟨wr.heap.size, 0, none⟩ = some (.int .i64 K) := (HB47.out.cell (p := ⟨wr.heap.size, 0, none⟩) hz4).trans (blk_cell HE4.out 0)
        have g1 : w7.cell? ⟨wr.heap.size, 1, none⟩ = some (.bool y) := (HB47.out.cell (p := ⟨wr.heap.size, 1, none⟩) hz4).trans (blk_cell HE4.out 1)
        have g2 : w7.cell? ⟨wr.heap.size, 2, none⟩ = some (.int .i64 z1) := (HB47.out.cell (p := ⟨wr.heap.size, 2, none⟩) hz4).trans (blk_cell HE4.out 2)
        have g3 : w7.cell? ⟨wr.heap.size, 3, none⟩ = some (.int .i64 z2) := (HB47.out.cell (p := ⟨wr.heap.size, 3, none⟩) hz4).trans (blk_cell HE4.out 3)
        have g4 : w7.cell? ⟨wr.heap.size, 4, none⟩ = some (.int .i64 z3) := (HB47.out.cell (p := ⟨wr.heap.size, 4, none⟩) hz4).trans (blk_cell HE4.out 4)
        have g5 : w7.cell? ⟨wr.heap.size, 5, none⟩ = some (.int .i64 z4) := (HB47.out.cell (p := ⟨wr.heap.size, 5, none⟩) hz4).trans (blk_cell HE4.out 5)
        have g6 : w7.cell? ⟨wr.heap.size, 6, none⟩ = some (.slice A5 n5 c5) := (HB47.out.cell (p := ⟨wr.heap.size, 6, none⟩) hz4).trans (blk_cell HE4.out 6)
        clear hb7 r0 r1 r2 r3 r4 r5 r6
        rw [hmy] at HMY
        go_wp2_with fail
        refine (HMY.out _).mono ?_
        rintro e w8 ⟨rfl, hb8⟩
        have HBW8 : Hid (Below w1.heap.size w1 w8) := Lib.hid (HBW7.out.trans (hb8.mono HBW7.out.size))
        have HFI : Hid (LqR9 w1 cl (.int .i64 ((k : Int) + 1)) (.string (str s)) (.bool false) w8) := Lib.hid ⟨k + 1, s, false, rfl, rfl, rfl, by rw [HM.out]; omega, (fun h => by cases h), (fun _ h2 => by
          have := h2 k (by omega)
          rw [HAA.out, hmy] at this
          cases this), by have := HSL.out; omega, HBW8.out⟩
        clear g0 g1 g2 g3 g4 g5 g6 hb8 hmy
        go_wp2
        go_roundw
        case rel => exact HFI.out
        case measure => simp [intOf]; omega
    · obtain rfl : k = m := by omega
      have HVR : Hid (AcV wr A3 k cl) := Lib.hid (HV1.out.below HB.out)
      have HWB : Hid (Below w.heap.size w wr) := Lib.hid (hbw1.trans (HB.out.mono hbw1.size))
      have HBL9 : Hid (∀ i, (aAt cl i).b.length < 1000000) := Lib.hid (fun i => by
        by_cases hi : i < k
        · have := HFB.out i hi; omega
        · have e : aAt cl i = acZ := by simp [aAt, List.getD, List.getElem?_eq_none (show cl.length ≤ i by rw [HM.out]; omega)]
          rw [e]; decide)
      have HOU := Lib.hid (ours27_any A3 k c3 cl wr HVR.out (by omega) HBL9.out)
      go_wp2_with fail
      refine HOU.out.mono ?_
      rintro e w2 ⟨v2, rfl, ho2, hb2⟩
      obtain ⟨A2, c2, rfl, hv2, _, _, _⟩ := ho2.acV (Nat.le_refl _) hb2.size
      rw [HM.out] at hv2 ⊢
      have HB2 : Hid (Below w.heap.size w w2) := Lib.hid (HWB.out.trans (hb2.mono HWB.out.size))
      have HVR2 : Hid (AcV w2 A3 k cl) := Lib.hid (HVR.out.below hb2)
      have HPR := Lib.hid (pprint_any A2 k c2 cl w2 hv2 hm9 (HT.out.below HB2.out) (HK.out.below HB2.out))
      clear ho2 hb2 hv2
      go_wp2_with fail
      refine HPR.out.mono ?_
      rintro e w3 h3
      cases mb with
      | false =>
        have hna := HMF.out rfl
        rcases h3 with ⟨h, _, _⟩ | ⟨_, rfl, hb3⟩
        · rw [HM.out] at h; exact absurd h hna
        have HB3 : Hid (Below w.heap.size w w3) := Lib.hid (HB2.out.trans (hb3.mono HB2.out.size))
        have HAW := Lib.hid (awake31_any w3 (HK.out.below HB3.out))
        clear hb3 hna
        go_wp2_with fail
        refine HAW.out.mono ?_
        rintro e w7 ⟨rfl, hb7⟩
        have HB7 : Hid (Below w.heap.size w w7) := Lib.hid (HB3.out.trans (hb7.mono HB3.out.size))
        clear hb7
        go_wp2
        go_ret
        exact ⟨rfl, HB7.out⟩
      | true =>
        obtain ⟨hal, hsp⟩ := HMT.out rfl
        have e9 : cl.take k = cl := List.take_of_length_le (by rw [HM.out]; exact Nat.le_refl _)
        rw [e9] at hsp
        have h3x : e = .returned (.tuple #[.string (str (printL cl)), .int .i64 0]) ∧ Below w2.heap.size w2 w3 := by
          rcases h3 with ⟨_, h1, h2⟩ | ⟨h, _, _⟩
          · exact ⟨h1, h2⟩
          · rw [HM.out] at h; exact absurd hal h
        obtain ⟨rfl, hb3⟩ := h3x
        have HMEM : Hid (∀ a ∈ cl, mayLn a = true) := Lib.hid (by have := allLn_mem hal (by rw [HM.out]; exact Nat.le_refl _); rw [e9] at this; exact this)
        have HBM : Hid (∀ a ∈ cl, ∀ c ∈ a.b, c < 256) := Lib.hid (fun a ha => by
          obtain ⟨i, hi, rfl⟩ := List.getElem_of_mem ha
          have := HBY.out i
          rw [aAt, List.getD_eq_getElem?_getD, List.getElem?_eq_getElem hi] at this
          exact mem_getD2 this)
        have HPB := Lib.hid (printL_byte cl HMEM.out HBM.out)
        have HPL := Lib.hid (printL_len cl HMEM.out)
        have HPP := Lib.hid (parse_print HMEM.out HBM.out)
        have HB3 : Hid (Below w.heap.size w w3) := Lib.hid (HB2.out.trans (hb3.mono HB2.out.size))
        have HVR3 : Hid (AcV w3 A3 k cl) := Lib.hid (HVR2.out.below hb3)
        rw [HM.out] at HPL
        rw [← hsp] at HPB HPL HPP ⊢
        have hq := str_toList (l := s) (m := s) (fun i => getD_mem2 (Q := fun c => c < 256) (by omega) HPB.out i) (fun i => getD_mem2 (Q := fun c => c < 256) (by omega) HPB.out i)
        rw [decide_eq_true rfl] at hq
        have HPA := Lib.hid (lparse_any s HPB.out (by have := HPL.out; omega) w3 (HK.out.below HB3.out))
        clear hb3 hal hsp e9
        go_wp2_with fail
        refine HPA.out.mono ?_
        rintro e w4 ⟨v4, l4, k4, er4, rfl, hb4, ho4, hp4, he0, he1⟩
        obtain ⟨rfl, rfl⟩ : cl = l4 ∧ 0 = k4 := by have h := HPP.out.symm.trans hp4; injection h with h1 h2; exact ⟨h1, h2⟩
        obtain rfl := he0 rfl
        have HB4 : Hid (Below w.heap.size w w4) := Lib.hid (HB3.out.trans (hb4.mono HB3.out.size))
        have HVR4 : Hid (AcV w4 A3 k cl) := Lib.hid (HVR3.out.below hb4)
        obtain ⟨A6, c6, rfl, hv6, _, _, _⟩ := ho4.acV (Nat.le_refl _) hb4.size
        rw [HM.out] at hv6 ⊢
        have HPLN : Hid (Calls Tryd.prog 15 #[.slice A6 k c6] w4 (GivesA 26 w4 cl)) := Lib.hid (plain27_any A6 k c6 cl w4 hv6 (by omega) HBL9.out)
        clear ho4 hp4 he0 he1 hv6 hb4
        go_wp2_with fail
        refine HPLN.out.mono ?_
        rintro e w5 ⟨v5, rfl, ho5, hb5⟩
        obtain ⟨A8, c8, rfl, hv8, _, _, _⟩ := ho5.acV (Nat.le_refl _) hb5.size
        have HB5 : Hid (Below w.heap.size w w5) := Lib.hid (HB4.out.trans (hb5.mono HB4.out.size))
        have HK5 : Hid (Kn w5) := Lib.hid (HK.out.below HB5.out)
        rw [HM.out] at hv8 ⊢
        have HV9 : Hid (AcV w5 A3 k cl) := Lib.hid (HVR4.out.below hb5)
        have e9 : allF false cl cl = true := (allF_iff cl cl).2 rfl
        have HAL := Lib.hid (rall27_any A8 A3 k c8 k c3 cl cl false w5 hv8 HV9.out (by omega) (by omega))
        rw [e9] at HAL
        clear ho5 hb5 hv8 e9
        go_wp2_with fail
        refine HAL.out.mono ?_
        rintro e w6 ⟨rfl, hb6⟩
        have HB6 : Hid (Below w.heap.size w w6) := Lib.hid (HB5.out.trans (hb6.mono HB5.out.size))
        have HAW := Lib.hid (awake31_any w6 (HK.out.below HB6.out))
        clear hb6
        go_wp2_with fail
        refine HAW.out.mono ?_
        rintro e w7 ⟨rfl, hb7⟩
        have HB7 : Hid (Below w.heap.size w w7) := Lib.hid (HB6.out.trans (hb7.mono HB6.out.size))
        clear hb7
        go_wp2
        go_ret
        exact ⟨rfl, HB7.out⟩
end Go.Proofs.YtcaogiaoabdkdaaDoor
