/-
  LinesBlank's walk.
-/
import Derived.Test.YtcaogiaoabdkdaaDoorZLqP
import Derived.Deep.CutRange
import Derived.Deep.RegionHeld3
namespace Go.Proofs.YtcaogiaoabdkdaaDoor
open Go.RowKit Go
set_option linter.unusedVariables false
set_option linter.unusedSimpArgs false
set_option maxRecDepth 1000000
set_option maxHeartbeats 4000000
section
variable {P : Program} {ops : Array Oper} {Q : Exit → Act → World → Prop} {md : Region.Mode} {S R : World → Prop}
/-- what is held may be strengthened on the way -/
theorem wpAnyH_sub (h : ∀ w, R w → S w) : ∀ (fuel : Nat) (listed : Array Bool) (a : Act) (w : World), wpAnyH P md ops Q R fuel listed a w → wpAnyH P md ops Q S fuel listed a w
  | 0, _, _, _, H => H
  | fuel + 1, _, _, _, H => ⟨H.1, fun i hi => wpOp_mono (fun a' w' h' => ⟨h w' h'.1, wpAnyH_sub h fuel _ a' w' h'.2⟩) (H.2 i hi)⟩
end
def SB (w : World) (l : List (Nat × Obj)) (W : World) : Prop := Below w.heap.size w W ∧ ∀ p ∈ l, W.heap[p.1]? = some p.2
theorem SB.start (w : World) : SB w [] w.drew := ⟨(Below.refl _ _).drew, fun p hp => by cases hp⟩
theorem SB.step {w V V' : World} {l : List (Nat × Obj)} (h : SB w l V) (hb : Below V.heap.size V V') : SB w l V' := ⟨h.1.trans (hb.mono h.1.size), fun p hp => by
  have e := h.2 p hp
  rw [hb.block _ (Array.getElem?_eq_some_iff.1 e).1]; exact e⟩
theorem SB.add {w V : World} {l : List (Nat × Obj)} {g : Nat} {o : Obj} (h : SB w l V) (e : V.heap[g]? = some o) : SB w ((g, o) :: l) V := ⟨h.1, fun p hp => by
  rcases List.mem_cons.1 hp with rfl | hp
  · exact e
  · exact h.2 p hp⟩
theorem SB.sub {w V : World} {l : List (Nat × Obj)} {p : Nat × Obj} (h : SB w (p :: l) V) : SB w l V := ⟨h.1, fun q hq => h.2 q (List.mem_cons_of_mem _ hq)⟩
theorem SB.bel {w V : World} {l : List (Nat × Obj)} (h : SB w l V) : Below w.heap.size w V := h.1
theorem SB.cell {w V : World} {l : List (Nat × Obj)} {g : Nat} {vs : Array Value} {t : TypeId} (h : SB w l V) (hm : (g, Obj.cells vs t (0, 0)) ∈ l) (k : Nat) : V.cell? ⟨g, k, none⟩ = vs[k]? := blk_cell (h.2 _ hm) k
theorem SB.of {w V : World} {l : List (Nat × Obj)} {p : Addr} {v : Value} (h : SB w l V) (hp : p.block < w.heap.size) (e : w.cell? p = some v) : V.cell? p = some v := (h.1.cell hp).trans e
def rA : Array Value := #[.string ⟨#[]⟩, .string ⟨#[32]⟩, .string ⟨#[9]⟩, .string ⟨#[10, 35, 120, 10]⟩]
def rB : Array Value := #[.string ⟨#[]⟩, .string ⟨#[32, 35, 32, 121]⟩, .string ⟨#[9, 32]⟩, .string ⟨#[35, 122]⟩]
def rC : Array Value := #[.string ⟨#[]⟩, .string ⟨#[10]⟩, .string ⟨#[32, 10]⟩, .string ⟨#[35, 10]⟩]
theorem rA_at : ∀ k, k < 4 → rA[k]? = some (.string (str (bA k))) := fun k hk => by
  match k, hk with
  | 0, _ => rfl
  | 1, _ => rfl
  | 2, _ => rfl
  | 3, _ => rfl
theorem rB_at : ∀ k, k < 4 → rB[k]? = some (.string (str (bB k))) := fun k hk => by
  match k, hk with
  | 0, _ => rfl
  | 1, _ => rfl
  | 2, _ => rfl
  | 3, _ => rfl
theorem rC_at : ∀ k, k < 4 → rC[k]? = some (.string (str (bC k))) := fun k hk => by
  match k, hk with
  | 0, _ => rfl
  | 1, _ => rfl
  | 2, _ => rfl
  | 3, _ => rfl
theorem bA_len (k : Nat) : (bA k).length ≤ 4 := by unfold bA; repeat' split
                                                   all_goals decide
theorem bB_len (k : Nat) : (bB k).length ≤ 4 := by unfold bB; repeat' split
                                                   all_goals decide
theorem bC_len (k : Nat) : (bC k).length ≤ 4 := by unfold bC; repeat' split
                                                   all_goals decide
theorem and3 (k : Int) : ∃ j : Nat, j < 4 ∧ bits .and .i64 k 3 = (j : Int) := by
  have h1 : (BitVec.ofInt 64 k).toNat &&& 3 ≤ 3 := Nat.and_le_right
  refine ⟨(BitVec.ofInt 64 k).toNat &&& 3, by omega, ?_⟩
  show IntKind.i64.wrap ((BitVec.ofInt 64 k &&& BitVec.ofInt 64 3).toNat : Int) = _
  rw [BitVec.toNat_and]
  have h2 : (BitVec.ofInt 64 3).toNat = 3 := by decide
  rw [h2]
  exact IntWalk.i64_in _ ⟨by omega, by omega⟩
def IV (w : World) (A : Option Addr) (n : Nat) : Prop := 0 < n → ∃ b o, A = some ⟨b, o, none⟩ ∧ b < w.heap.size ∧ ∀ i, i < n → ∃ z : Int, w.cell? ⟨b, o + i, none⟩ = some (.int .i64 z)
section
open Go.ChangeShapes Go.WideShapes Go.Deep
variable {H : Type} {enc : TypeId × Value → H}
theorem iv_open {w : World} {A : Option Addr} {n c : Nat} {d : DataW H} {p : List MemPlace} (h : DataW.Trod enc Tryd.prog w 0 (fun _ => true) true 46 (.slice A n c) d p) : IV w A n ∧ n ≤ 9223372036854775807 := by
  obtain ⟨fuel, hf⟩ := h
  rcases open_ints Tryd.underlying46 Tryd.underlying3 (by kernel_rfl) hf with ⟨hcs, _⟩ | ⟨x, l, cc, zs, hcs, _, hl, hm, hz, _, hcell, hwz⟩
  · simp [Value.cells] at hcs
    obtain ⟨rfl, rfl, rfl⟩ := hcs
    exact ⟨fun h => absurd h (by omega), by omega⟩
  · simp [Value.cells] at hcs
    obtain ⟨rfl, rfl, rfl⟩ := hcs
    have hz2 : zs.length = c := by simpa using hz
    refine ⟨fun hn => ?_, by unfold maxLen at hm; omega⟩
    obtain ⟨b, o, rfl, hc⟩ := ints_at hcell (by omega)
    exact ⟨b, o, rfl, block_lt_of_cell (hc 0 (by omega)), fun i hi => ⟨_, hc i (by omega)⟩⟩
end
def BlR (w : World) (m : Nat) (iv lv sv : Value) (wr : World) : Prop := ∃ (k : Nat) (s : List Nat) (o : List Ac) (v : Value), iv = .int .i64 (k : Int) ∧ v = lv ∧ sv = .string (str s) ∧ k ≤ m ∧ (∀ c ∈ s, c < 256) ∧ s.length ≤ k * 6400 ∧ o.length ≤ k ∧ (∀ a ∈ o, a.b.length ≤ 1030) ∧ Pt s o ∧ AcO 26 wr w.heap.size w.heap.size v o ∧ Below w.heap.size w wr
theorem linesBlank_any (A1 : Option Addr) (n1 c1 : Nat) (l : List Ac) (A2 : Option Addr) (n2 c2 : Nat) (w : World) (hv : AcV w A1 n1 l) (hn1 : n1 ≤ 9223372036854775807) (hs : IV w A2 n2) (hn2 : n2 ≤ 9223372036854775807) (hK : Kn w) :
    Calls Tryd.prog 5 #[.slice A1 n1 c1, .slice A2 n2 c2] w (SameTo w true) := by
  have HC := Lib.hid (cut27_any A1 n1 c1 8 l w hv hn1 (by omega))
  have HF := Lib.hid (cutL_len 8 l)
  have HFB := Lib.hid (cutL_b 8 l)
  generalize cutL 8 l = cl at *
  have HK := Lib.hid hK
  have HS := Lib.hid hs
  clear hv hK hs
  go_enter Tryd.func5, Tryd.ntmps5
  go_wp2_with fail
  refine HC.out.mono ?_
  rintro e w1 ⟨v1, rfl, ho1, hbw1⟩
  obtain ⟨A3, c3, rfl, hv1, _, _, _⟩ := ho1.acV (Nat.le_refl _) hbw1.size
  obtain ⟨m, hm⟩ : ∃ m, cl.length = m := ⟨_, rfl⟩
  have HV1 : Hid (AcV w1 A3 m cl) := Lib.hid (by rw [← hm]; exact hv1)
  rw [hm] at HF HFB ⊢
  have HR0 : Hid (BlR w1 m (.int .i64 0) (.slice none 0 0) (.string ⟨#[]⟩) w1) := Lib.hid ⟨0, [], [], _, rfl, rfl, rfl, by omega, (fun c hc => by cases hc), Nat.zero_le _, Nat.zero_le _, (fun a ha => by cases ha), Pt.nil, AcO.nil _ _ _ _, Below.refl _ _⟩
  have HBY := Lib.hid (fun i => HV1.out.byte i)
  have hm9 : m ≤ 8 := HF.out
  clear ho1 hv1 hm HC
  go_wp2_with fail
  go_loopw [16, 5, 6] (fun iv lv sv wr => BlR w1 m iv lv sv wr) (fun iv _ _ _ => (m - intOf iv).toNat)
  case atStart => exact HR0.out
  case round =>
    clear HR0
    obtain ⟨k, s, al, v, rfl, rfl, rfl, hk, hsb, hsl, hol, hob, hpt, hao, hb⟩ := hrel
    by_cases hlt : k < m
    · have HB := Lib.hid hb
      have HSB := Lib.hid hsb
      have HSL := Lib.hid hsl
      have HOL := Lib.hid hol
      have HOB := Lib.hid hob
      have HPT := Lib.hid hpt
      have HAO := Lib.hid hao
      clear hsb hsl hb hol hob hpt hao
      obtain ⟨b, o, A5, c5, rfl, hb0, q0, q1, q2, q3, q4, q5, q6, hs1, hz1⟩ := HV1.out.at_ (show k < m by omega)
      have p0 : wr.cell? ⟨b, o + k * 7, none⟩ = some (.int .i64 (aAt cl k).kind) := (HB.out.cell (p := ⟨b, o + k * 7, none⟩) hb0).trans q0
      have p1 : wr.cell? ⟨b, o + k * 7 + 1, none⟩ = some (.bool (aAt cl k).yes) := (HB.out.cell (p := ⟨b, o + k * 7 + 1, none⟩) hb0).trans q1
      have p2 : wr.cell? ⟨b, o + k * 7 + 2, none⟩ = some (.int .i64 (aAt cl k).which) := (HB.out.cell (p := ⟨b, o + k * 7 + 2, none⟩) hb0).trans q2
      have p3 : wr.cell? ⟨b, o + k * 7 + 3, none⟩ = some (.int .i64 (aAt cl k).k) := (HB.out.cell (p := ⟨b, o + k * 7 + 3, none⟩) hb0).trans q3
      have p4 : wr.cell? ⟨b, o + k * 7 + 4, none⟩ = some (.int .i64 (aAt cl k).n) := (HB.out.cell (p := ⟨b, o + k * 7 + 4, none⟩) hb0).trans q4
      have p5 : wr.cell? ⟨b, o + k * 7 + 5, none⟩ = some (.int .i64 (aAt cl k).pos) := (HB.out.cell (p := ⟨b, o + k * 7 + 5, none⟩) hb0).trans q5
      have p6 : wr.cell? ⟨b, o + k * 7 + 6, none⟩ = some (.slice A5 (aAt cl k).b.length c5) := (HB.out.cell (p := ⟨b, o + k * 7 + 6, none⟩) hb0).trans q6
      have hlt1 : b < wr.heap.size := Nat.lt_of_lt_of_le hb0 HB.out.size
      have HBB := Lib.hid (HBY.out k)
      have HBL := Lib.hid (HFB.out k hlt)
      obtain ⟨bb, hbb⟩ : ∃ bb, (aAt cl k).b = bb := ⟨_, rfl⟩
      rw [hbb] at p6 hs1 HBB HBL
      obtain ⟨n5, hn5⟩ : ∃ n5, bb.length = n5 := ⟨_, rfl⟩
      have HN5 := Lib.hid hn5
      rw [hn5] at p6 hs1 HBL
      have HS1 := Lib.hid hs1
      have HZ1 := Lib.hid hz1
      clear q0 q1 q2 q3 q4 q5 q6 hs1 hz1 hb0 hbb hn5
      generalize (aAt cl k).kind = K at *
      generalize (aAt cl k).yes = y at *
      generalize (aAt cl k).which = z1 at *
      generalize (aAt cl k).k = z2 at *
      generalize (aAt cl k).n = z3 at *
      generalize (aAt cl k).pos = z4 at *
      have HB4 : Hid (Below wr.heap.size wr (wr.alloc (.cells #[.int .i64 K, .bool y, .int .i64 z1, .int .i64 z2, .int .i64 z3, .int .i64 z4, .slice A5 n5 c5] 26))) := Lib.hid (al1 _ _)
      have HE4 : Hid ((wr.alloc (.cells #[.int .i64 K, .bool y, .int .i64 z1, .int .i64 z2, .int .i64 z3, .int .i64 z4, .slice A5 n5 c5] 26)).heap[wr.heap.size]? = some (.cells #[.int .i64 K, .bool y, .int .i64 z1, .int .i64 z2, .int .i64 z3, .int .i64 z4, .slice A5 n5 c5] 26 (0, 0))) := Lib.hid (heap_alloc_new _ _)
      have HZ4 : Hid (wr.heap.size < (wr.alloc (.cells #[.int .i64 K, .bool y, .int .i64 z1, .int .i64 z2, .int .i64 z3, .int .i64 z4, .slice A5 n5 c5] 26)).heap.size) := Lib.hid (by simp)
      have HMY := Lib.hid (rmay31_any K y z1 z2 z3 z4 A5 n5 c5 bb HN5.out (by have := HBL.out; omega) (wr.alloc (.cells #[.int .i64 K, .bool y, .int .i64 z1, .int .i64 z2, .int .i64 z3, .int .i64 z4, .slice A5 n5 c5] 26)))
      generalize hW4 : wr.alloc (.cells #[.int .i64 K, .bool y, .int .i64 z1, .int .i64 z2, .int .i64 z3, .int .i64 z4, .slice A5 n5 c5] 26) = W4 at *
      have g0 : W4.cell? ⟨wr.heap.size, 0, none⟩ = some (.int .i64 K) := blk_cell HE4.out 0
      have g1 : W4.cell? ⟨wr.heap.size, 1, none⟩ = some (.bool y) := blk_cell HE4.out 1
      have g2 : W4.cell? ⟨wr.heap.size, 2, none⟩ = some (.int .i64 z1) := blk_cell HE4.out 2
      have g3 : W4.cell? ⟨wr.heap.size, 3, none⟩ = some (.int .i64 z2) := blk_cell HE4.out 3
      have g4 : W4.cell? ⟨wr.heap.size, 4, none⟩ = some (.int .i64 z3) := blk_cell HE4.out 4
      have g5 : W4.cell? ⟨wr.heap.size, 5, none⟩ = some (.int .i64 z4) := blk_cell HE4.out 5
      have g6 : W4.cell? ⟨wr.heap.size, 6, none⟩ = some (.slice A5 n5 c5) := blk_cell HE4.out 6
      go_wp2_with fail
      refine HMY.out.mono ?_
      rintro e w2 ⟨rfl, hb2⟩
      have HB2 : Hid (Below w1.heap.size w1 w2) := Lib.hid (HB.out.trans ((HB4.out.trans (hb2.mono HB4.out.size)).mono HB.out.size))
      have HBR : Hid (Below wr.heap.size wr w2) := Lib.hid (HB4.out.trans (hb2.mono HB4.out.size))
      have hlt2 : wr.heap.size < W4.heap.size := HZ4.out
      have HE2 : Hid (w2.heap[wr.heap.size]? = some (.cells #[.int .i64 K, .bool y, .int .i64 z1, .int .i64 z2, .int .i64 z3, .int .i64 z4, .slice A5 n5 c5] 26 (0, 0))) := Lib.hid ((hb2.block _ hlt2).trans HE4.out)
      clear g0 g1 g2 g3 g4 g5 g6 hb2 p0 p1 p2 p3 p4 p5 p6
      have HAO2 : Hid (AcO 26 w2 w1.heap.size w1.heap.size v al) := Lib.hid (HAO.out.below (Nat.le_refl _) HB.out.size HBR.out)
      cases hmay : mayLn ⟨K, y, z1, z2, z3, z4, bb⟩ with
      | false =>
        have HFI : Hid (BlR w1 m (.int .i64 ((k : Int) + 1)) v (.string (str s)) w2) := Lib.hid ⟨k + 1, s, al, v, rfl, rfl, rfl, by omega, HSB.out, by have := HSL.out; omega, by have := HOL.out; omega, HOB.out, HPT.out, HAO2.out, HB2.out⟩
        clear hW4 hmay HMY HE4 HZ4 HB4 hlt2
        go_wp2
        go_roundw
        case rel => exact HFI.out
        case measure => simp [intOf]; omega
      | true =>
        go_upto_if 27 with (fail)
        go_cut [16, 9] from 16 to 57 (fun iv kv wx => iv = .int .i64 (k : Int) ∧ (∃ kk : Nat, kk < 4 ∧ kv = .int .i64 (kk : Int)) ∧ wx = w2)
        case first =>
          by_cases hk2 : k < n2
          · obtain ⟨b2, o2, rfl, hb2, hc2⟩ := HS.out (by omega)
            obtain ⟨z, q0⟩ := hc2 k hk2
            have p0 : w2.cell? ⟨b2, o2 + k, none⟩ = some (.int .i64 z) := ((hbw1.trans (HB2.out.mono hbw1.size)).cell (p := ⟨b2, o2 + k, none⟩) hb2).trans q0
            obtain ⟨kk, hkk, hand⟩ := and3 z
            have hk2I : (k : Int) < (n2 : Int) := by omega
            have HKK : Hid (kk < 4) := Lib.hid hkk
            clear hc2 q0 hkk
            go_wp2
            go_meet
            case rel => exact ⟨rfl, ⟨kk, HKK.out, by first | exact congrArg _ hand | rfl⟩, rfl⟩
          · have hk2I : ¬ (k : Int) < (n2 : Int) := by omega
            go_wp2
            go_meet
            case rel => exact ⟨rfl, ⟨0, by omega, rfl⟩, rfl⟩
        case rest =>
          obtain ⟨rfl, ⟨kk, hkk, rfl⟩, rfl⟩ := hcut
          have hA : mayA ⟨K, y, z1, z2, z3, z4, bb⟩ = true := by unfold mayLn at hmay; rw [Bool.and_eq_true] at hmay; exact hmay.1
          obtain ⟨kd, y1, y2, y3, y4, hkd, hy1, hy2, hy3, hy4, hbl, e0, e1, e2, e3, e4⟩ := mayA_nat hA
          dsimp only at e0 e1 e2 e3 e4
          subst e0 e1 e2 e3 e4
          dsimp only at hbl
          have HLL := Lib.hid (blk_len kk hmay)
          have HLB := Lib.hid (blk_byte kk hmay (mem_getD HBB.out))
          have HBK := Lib.hid (Pt.blk kk hmay (mem_getD HBB.out))
          have HBS : Hid (bA kk ++ lineA ⟨kd, y, y1, y2, y3, y4, bb⟩ ++ bB kk ++ [10] ++ bC kk = blkA kk ⟨kd, y, y1, y2, y3, y4, bb⟩) := Lib.hid rfl
          have HS2 : Hid (∀ V, Below w1.heap.size w1 V → BS V V.heap.size A5 n5 c5 bb) := Lib.hid (fun V hV => (HS1.out.below hV).more hV.size)
          have HNX : Hid (kd < 20 ∧ y1 ≤ 65535 ∧ y2 ≤ 65535 ∧ y3 ≤ 65535 ∧ y4 ≤ 65535 ∧ n5 ≤ 1024) := Lib.hid ⟨hkd, by omega, by omega, by omega, by omega, by have := HN5.out; omega⟩
          clear hA hbl hkd hy1 hy2 hy3 hy4 hW4 HMY HE4 HZ4 HB4 hlt2
          have g0 : wc.cell? ⟨wr.heap.size, 0, none⟩ = some (.int .i64 (kd : Int)) := blk_cell HE2.out 0
          have g1 : wc.cell? ⟨wr.heap.size, 1, none⟩ = some (.bool y) := blk_cell HE2.out 1
          have g2 : wc.cell? ⟨wr.heap.size, 2, none⟩ = some (.int .i64 (y1 : Int)) := blk_cell HE2.out 2
          have g3 : wc.cell? ⟨wr.heap.size, 3, none⟩ = some (.int .i64 (y2 : Int)) := blk_cell HE2.out 3
          have g4 : wc.cell? ⟨wr.heap.size, 4, none⟩ = some (.int .i64 (y3 : Int)) := blk_cell HE2.out 4
          have g5 : wc.cell? ⟨wr.heap.size, 5, none⟩ = some (.int .i64 (y4 : Int)) := blk_cell HE2.out 5
          have g6 : wc.cell? ⟨wr.heap.size, 6, none⟩ = some (.slice A5 n5 c5) := blk_cell HE2.out 6
          have HTL : Hid (al.length < 100000) := Lib.hid (by have := HOL.out; have := HF.out; omega)
          have HI8 : Hid (EnI wc w1.heap.size w1.heap.size A5 c5 bb) := Lib.hid ⟨.inl (by rw [HN5.out]; exact (HS1.out).below HB2.out), HZ1.out⟩
          have HOWN : Hid (v.ownBlock ≠ some wr.heap.size) := Lib.hid (fun e => by
            obtain ⟨vs, hvs, _⟩ := HAO.out
            obtain ⟨cs, hcs⟩ := own_rows hvs _ e
            exact absurd (Array.getElem?_eq_some_iff.1 hcs).1 (Nat.lt_irrefl _))
          go_upto_region 11 with (at_builtin; refine wp_appA 26 22 Tryd.underlying22 (by kernel_rfl) (by decide) _ rfl (.tmp 33) (.tmp 35) rfl w1.heap.size w1.heap.size (Nat.le_refl _) v al kd y1 y2 y3 y4 y bb A5 c5 n5 HN5.out rfl HAO2.out HTL.out rfl HI8.out HB2.out.size ?_; intro v9 w9 ho9 hd9 hf9; have HO9 := Lib.hid ho9; have HB9 : Hid (Below w1.heap.size w1 w9) := Lib.hid (HB2.out.trans hd9); have HE9 : Hid (w9.heap[wr.heap.size]? = some (.cells #[.int .i64 (kd : Int), .bool y, .int .i64 (y1 : Int), .int .i64 (y2 : Int), .int .i64 (y3 : Int), .int .i64 (y4 : Int), .slice A5 n5 c5] 26 (0, 0))) := Lib.hid ((hf9 _ (Array.getElem?_eq_some_iff.1 HE2.out).1 HOWN.out).trans HE2.out); clear ho9 hd9 hf9)
          clear g0 g1 g2 g3 g4 g5 g6
          have hltg : wr.heap.size < w9.heap.size := (Array.getElem?_eq_some_iff.1 HE9.out).1
          have HLN : Hid (∀ V, Below w9.heap.size w9 V → Calls Tryd.prog 10 #[.agg #[.int .i64 (kd : Int), .bool y, .int .i64 (y1 : Int), .int .i64 (y2 : Int), .int .i64 (y3 : Int), .int .i64 (y4 : Int), .slice A5 n5 c5]] V (GivesS V (lineA ⟨kd, y, y1, y2, y3, y4, bb⟩))) := Lib.hid (fun V hV => by
            obtain ⟨t1, t2, t3, t4, t5, t6⟩ := HNX.out
            exact rline_any kd y1 y2 y3 y4 y A5 n5 c5 bb V t1 t2 t3 t4 t5 (HS2.out V (HB9.out.trans (hV.mono HB9.out.size))) t6)
          have HrA := Lib.hid (show (#[.string ⟨#[]⟩, .string ⟨#[32]⟩, .string ⟨#[9]⟩, .string ⟨#[10, 35, 120, 10]⟩] : Array Value)[kk]? = some (.string (str (bA kk))) from rA_at kk hkk)
          have HrB := Lib.hid (show (#[.string ⟨#[]⟩, .string ⟨#[32, 35, 32, 121]⟩, .string ⟨#[9, 32]⟩, .string ⟨#[35, 122]⟩] : Array Value)[kk]? = some (.string (str (bB kk))) from rB_at kk hkk)
          have HrC := Lib.hid (show (#[.string ⟨#[]⟩, .string ⟨#[10]⟩, .string ⟨#[32, 10]⟩, .string ⟨#[35, 10]⟩] : Array Value)[kk]? = some (.string (str (bC kk))) from rC_at kk hkk)
          have HLA := Lib.hid (bA_len kk)
          have HLBB := Lib.hid (bB_len kk)
          have HLC := Lib.hid (bC_len kk)
          have HLNN := Lib.hid (lineA_len hmay)
          obtain ⟨a9, ha9⟩ : ∃ a9, a9 = (⟨kd, y, y1, y2, y3, y4, bb⟩ : Ac) := ⟨_, rfl⟩
          rw [← ha9] at HLN HLL HLB HBK HBS HLNN HO9
          have HAB : Hid (a9.b.length ≤ 1030) := Lib.hid (by rw [ha9]; have := HNX.out.2.2.2.2.2; have := HN5.out; dsimp only; omega)
          clear ha9 hmay
          generalize lineA a9 = la at *
          generalize bA kk = xA at *
          generalize bB kk = xB at *
          generalize bC kk = xC at *
          generalize blkA kk a9 = ba at *
          obtain ⟨p1, hp1⟩ : ∃ p1, s ++ xA = p1 := ⟨_, rfl⟩
          obtain ⟨p2, hp2⟩ : ∃ p2, p1 ++ la = p2 := ⟨_, rfl⟩
          obtain ⟨p3, hp3⟩ : ∃ p3, p2 ++ xB = p3 := ⟨_, rfl⟩
          obtain ⟨p4, hp4⟩ : ∃ p4, p3 ++ [10] = p4 := ⟨_, rfl⟩
          obtain ⟨p5, hp5⟩ : ∃ p5, p4 ++ xC = p5 := ⟨_, rfl⟩
          have e1 : str s ++ str xA = str p1 := by rw [← hp1]; exact str_app _ _
          have e2 : str p1 ++ str la = str p2 := by rw [← hp2]; exact str_app _ _
          have e3 : str p2 ++ str xB = str p3 := by rw [← hp3]; exact str_app _ _
          have e4 : str p3 ++ (⟨#[10]⟩ : ByteArray) = str p4 := by rw [← hp4]; exact str_app p3 [10]
          have e5 : str p4 ++ str xC = str p5 := by rw [← hp5]; exact str_app _ _
          have HP5 : Hid (p5 = s ++ ba) := Lib.hid (by rw [← hp5, ← hp4, ← hp3, ← hp2, ← hp1, ← HBS.out]; simp only [List.append_assoc])
          have l1 : p1.length = s.length + xA.length := by rw [← hp1, List.length_append]
          have l2 : p2.length = p1.length + la.length := by rw [← hp2, List.length_append]
          have l3 : p3.length = p2.length + xB.length := by rw [← hp3, List.length_append]
          have l4 : p4.length = p3.length + 1 := by rw [← hp4, List.length_append]; rfl
          have m0 : s.length ≤ 51200 := by have := HSL.out; omega
          have m1 := HLA.out
          have m2 := HLBB.out
          have m3 := HLC.out
          have m4 := HLNN.out
          have s1 : (str s).size + (str xA).size ≤ 9223372036854775807 := by rw [str_size, str_size]; omega
          have s2 : (str p1).size + (str la).size ≤ 9223372036854775807 := by rw [str_size, str_size]; omega
          have s3 : (str p2).size + (str xB).size ≤ 9223372036854775807 := by rw [str_size, str_size]; omega
          have s4 : (str p3).size + 1 ≤ 9223372036854775807 := by rw [str_size]; omega
          have s5 : (str p4).size + (str xC).size ≤ 9223372036854775807 := by rw [str_size, str_size]; omega
          have hkkI : (kk : Int) < 4 := by omega
          clear hp1 hp2 hp3 hp4 hp5 l1 l2 l3 l4 m0 m1 m2 m3 m4 HLA HLBB HLC HLNN HBS
          have HFI : Hid (∀ V, Below w9.heap.size w9 V → BlR w1 m (.int .i64 ((k : Int) + 1)) v9 (.string (str p5)) V) := Lib.hid (fun V hbx => ⟨k + 1, p5, al ++ [a9], v9, rfl, rfl, rfl, by omega, fun c hc => by
              rw [HP5.out, List.mem_append] at hc
              exact hc.elim (HSB.out c) (HLB.out c), by
              rw [HP5.out, List.length_append]
              have h1 := HSL.out
              have h2 := HLL.out
              omega, by rw [List.length_append]; have := HOL.out; simp; omega, fun a ha => by
              rw [List.mem_append, List.mem_singleton] at ha
              exact ha.elim (HOB.out a) (fun e => e ▸ HAB.out), by rw [HP5.out]; exact HPT.out.app HBK.out, HO9.out.below (Nat.le_refl _) HB9.out.size hbx, HB9.out.trans (hbx.mono HB9.out.size)⟩)
          clear HK HS HF HFB HBY hbw1 HB HSB HSL HOL HOB HPT HV1 HBB HBL HN5 HS1 HZ1 HB2 HBR HE2 HAO HAO2 HLL HLB HBK HS2 HNX HO9 HB9 HP5 HAB HTL HI8 HOWN
          refine wp_region_held_drew (S := SB w9 []) (by kernel_rfl) (SB.start w9) (fun hh0 => ?_)
          generalize w9.drew = V0 at *
          (try simp only [Act.put, List.getElem_toArray, List.getElem_cons_succ, List.getElem_cons_zero, List.setIfInBounds_toArray, List.set_cons_zero, List.set_cons_succ])
          refine wpAnyH_take (i := 0) (oi := _) (v := ?_) rfl (by kernel_rfl) (by kernel_rfl) (by kernel_rfl) (fun _ _ _ h => h) (Or.inl ⟨by rfl, ?_⟩) (by assumption) ?_
          rotate_left 1
          · intro w hSw
            (first | (go_simp; done) | (go_simp; with_reducible rfl) | (go_simp; rw [if_neg (Nat.not_lt.2 (by assumption))]))
          (try simp only [Act.put, List.getElem_toArray, List.getElem_cons_succ, List.getElem_cons_zero, List.setIfInBounds_toArray, List.set_cons_zero, List.set_cons_succ])
          refine wpAnyH_take (i := 2) (oi := _) (v := ?_) rfl (by kernel_rfl) (by kernel_rfl) (by kernel_rfl) (fun _ _ _ h => h) (Or.inl ⟨by rfl, ?_⟩) (by assumption) ?_
          rotate_left 1
          · intro w hSw
            (first | (go_simp; done) | (go_simp; with_reducible rfl) | (go_simp; rw [if_neg (Nat.not_lt.2 (by assumption))]))
          (try simp only [Act.put, List.getElem_toArray, List.getElem_cons_succ, List.getElem_cons_zero, List.setIfInBounds_toArray, List.set_cons_zero, List.set_cons_succ])
          refine wpAnyH_take (i := 6) (oi := _) (v := ?_) rfl (by kernel_rfl) (by kernel_rfl) (by kernel_rfl) (fun _ _ _ h => h) (Or.inl ⟨by rfl, ?_⟩) (by assumption) ?_
          rotate_left 1
          · intro w hSw
            have g0 : w.cell? ⟨wr.heap.size, 0, none⟩ = some (.int .i64 (kd : Int)) := hSw.of (p := ⟨wr.heap.size, 0, none⟩) hltg (blk_cell HE9.out 0)
            have g1 : w.cell? ⟨wr.heap.size, 1, none⟩ = some (.bool y) := hSw.of (p := ⟨wr.heap.size, 1, none⟩) hltg (blk_cell HE9.out 1)
            have g2 : w.cell? ⟨wr.heap.size, 2, none⟩ = some (.int .i64 (y1 : Int)) := hSw.of (p := ⟨wr.heap.size, 2, none⟩) hltg (blk_cell HE9.out 2)
            have g3 : w.cell? ⟨wr.heap.size, 3, none⟩ = some (.int .i64 (y2 : Int)) := hSw.of (p := ⟨wr.heap.size, 3, none⟩) hltg (blk_cell HE9.out 3)
            have g4 : w.cell? ⟨wr.heap.size, 4, none⟩ = some (.int .i64 (y3 : Int)) := hSw.of (p := ⟨wr.heap.size, 4, none⟩) hltg (blk_cell HE9.out 4)
            have g5 : w.cell? ⟨wr.heap.size, 5, none⟩ = some (.int .i64 (y4 : Int)) := hSw.of (p := ⟨wr.heap.size, 5, none⟩) hltg (blk_cell HE9.out 5)
            have g6 : w.cell? ⟨wr.heap.size, 6, none⟩ = some (.slice A5 n5 c5) := hSw.of (p := ⟨wr.heap.size, 6, none⟩) hltg (blk_cell HE9.out 6)
            (first | (go_simp; done) | (go_simp; with_reducible rfl) | (go_simp; rw [if_neg (Nat.not_lt.2 (by assumption))]))
          (try simp only [Act.put, List.getElem_toArray, List.getElem_cons_succ, List.getElem_cons_zero, List.setIfInBounds_toArray, List.set_cons_zero, List.set_cons_succ])
          refine wpAnyH_take (i := 10) (oi := _) (v := ?_) rfl (by kernel_rfl) (by kernel_rfl) (by kernel_rfl) (fun _ _ _ h => h) (Or.inl ⟨by rfl, ?_⟩) (by assumption) ?_
          rotate_left 1
          · intro w hSw
            (first | (go_simp; done) | (go_simp; with_reducible rfl) | (go_simp; rw [if_neg (Nat.not_lt.2 (by assumption))]))
          (try simp only [Act.put, List.getElem_toArray, List.getElem_cons_succ, List.getElem_cons_zero, List.setIfInBounds_toArray, List.set_cons_zero, List.set_cons_succ])
          refine wpAnyH_take (i := 16) (oi := _) (v := ?_) rfl (by kernel_rfl) (by kernel_rfl) (by kernel_rfl) (fun _ _ _ h => h) (Or.inl ⟨by rfl, ?_⟩) (by assumption) ?_
          rotate_left 1
          · intro w hSw
            (first | (go_simp; done) | (go_simp; with_reducible rfl) | (go_simp; rw [if_neg (Nat.not_lt.2 (by assumption))]))
          (try simp only [Act.put, List.getElem_toArray, List.getElem_cons_succ, List.getElem_cons_zero, List.setIfInBounds_toArray, List.set_cons_zero, List.set_cons_succ])
          refine wpAnyH_ready (rs := [1, 7, 9, 15]) (by kernel_rfl) (by simp) ?_
          refine AllReadyH.cons (o := _) rfl (fun K hK => ?_) ?_
          · go_simp
            refine hK.out _ _ (hh0.step (al1 _ _)) (fun hh1a => ?_)
            clear hK K
            (try simp only [Act.put, List.getElem_toArray, List.getElem_cons_succ, List.getElem_cons_zero, List.setIfInBounds_toArray, List.set_cons_zero, List.set_cons_succ])
            have hh1 := hh1a.add (heap_alloc_new V0 (.cells #[.string ⟨#[]⟩, .string ⟨#[32]⟩, .string ⟨#[9]⟩, .string ⟨#[10, 35, 120, 10]⟩] 9))
            clear hh1a
            generalize V0.alloc (.cells #[.string ⟨#[]⟩, .string ⟨#[32]⟩, .string ⟨#[9]⟩, .string ⟨#[10, 35, 120, 10]⟩] 9) = V1 at hh1 ⊢
            refine wpAnyH_sub (R := SB w9 [(V0.heap.size, .cells #[.string ⟨#[]⟩, .string ⟨#[32]⟩, .string ⟨#[9]⟩, .string ⟨#[10, 35, 120, 10]⟩] 9 (0, 0))]) (fun _ h => h.sub) _ _ _ _ ?_
            refine wpAnyH_take (i := 3) (oi := _) (v := ?_) rfl (by kernel_rfl) (by kernel_rfl) (by kernel_rfl) (fun _ _ _ h => h) (Or.inl ⟨by rfl, ?_⟩) (by assumption) ?_
            rotate_left 1
            · intro w hSw
              (first | (go_simp; done) | (go_simp; with_reducible rfl) | (go_simp; rw [if_neg (Nat.not_lt.2 (by assumption))]))
            (try simp only [Act.put, List.getElem_toArray, List.getElem_cons_succ, List.getElem_cons_zero, List.setIfInBounds_toArray, List.set_cons_zero, List.set_cons_succ])
            refine wpAnyH_take (i := 4) (oi := _) (v := ?_) rfl (by kernel_rfl) (by kernel_rfl) (by kernel_rfl) (fun _ _ _ h => h) (Or.inl ⟨by rfl, ?_⟩) (by assumption) ?_
            rotate_left 1
            · intro w hSw
              have cq : w.cell? ⟨V0.heap.size, kk, none⟩ = some (.string (str xA)) := (hSw.cell (g := V0.heap.size) (vs := #[.string ⟨#[]⟩, .string ⟨#[32]⟩, .string ⟨#[9]⟩, .string ⟨#[10, 35, 120, 10]⟩]) (t := 9) (.head _) kk).trans HrA.out
              (first | (go_simp; done) | (go_simp; with_reducible rfl) | (go_simp; rw [if_neg (Nat.not_lt.2 (by assumption))]))
            (try simp only [Act.put, List.getElem_toArray, List.getElem_cons_succ, List.getElem_cons_zero, List.setIfInBounds_toArray, List.set_cons_zero, List.set_cons_succ])
            refine wpAnyH_take (i := 5) (oi := _) (v := ?_) rfl (by kernel_rfl) (by kernel_rfl) (by kernel_rfl) (fun _ _ _ h => h) (Or.inl ⟨by rfl, ?_⟩) (by assumption) ?_
            rotate_left 1
            · intro w hSw
              (first | (go_simp; done) | (go_simp; with_reducible rfl) | (go_simp; rw [if_neg (Nat.not_lt.2 (by assumption))]))
            (try simp only [Act.put, List.getElem_toArray, List.getElem_cons_succ, List.getElem_cons_zero, List.setIfInBounds_toArray, List.set_cons_zero, List.set_cons_succ])
            refine wpAnyH_ready (rs := [7, 9, 15]) (by kernel_rfl) (by simp) ?_
            refine AllReadyH.cons (o := _) rfl (fun K hK => ?_) ?_
            · go_simp
              (go_at_call 10)
              ((with_reducible refine (HLN.out _ hh1.bel).mono ?_))
              rintro e V2 ⟨rfl, hbl⟩
              refine hK.out _ _ (hh1.step hbl) (fun hh2 => ?_)
              clear hK K hbl
              (try simp only [Act.put, List.getElem_toArray, List.getElem_cons_succ, List.getElem_cons_zero, List.setIfInBounds_toArray, List.set_cons_zero, List.set_cons_succ])
              refine wpAnyH_take (i := 8) (oi := _) (v := ?_) rfl (by kernel_rfl) (by kernel_rfl) (by kernel_rfl) (fun _ _ _ h => h) (Or.inl ⟨by rfl, ?_⟩) (by assumption) ?_
              rotate_left 1
              · intro w hSw
                (first | (go_simp; done) | (go_simp; with_reducible rfl) | (go_simp; rw [if_neg (Nat.not_lt.2 (by assumption))]))
              (try simp only [Act.put, List.getElem_toArray, List.getElem_cons_succ, List.getElem_cons_zero, List.setIfInBounds_toArray, List.set_cons_zero, List.set_cons_succ])
              refine wpAnyH_ready (rs := [9, 15]) (by kernel_rfl) (by simp) ?_
              refine AllReadyH.cons (o := _) rfl (fun K hK => ?_) ?_
              · go_simp
                refine hK.out _ _ (hh2.step (al1 _ _)) (fun hh3a => ?_)
                clear hK K
                (try simp only [Act.put, List.getElem_toArray, List.getElem_cons_succ, List.getElem_cons_zero, List.setIfInBounds_toArray, List.set_cons_zero, List.set_cons_succ])
                have hh3 := hh3a.add (heap_alloc_new V2 (.cells #[.string ⟨#[]⟩, .string ⟨#[32, 35, 32, 121]⟩, .string ⟨#[9, 32]⟩, .string ⟨#[35, 122]⟩] 9))
                clear hh3a
                generalize V2.alloc (.cells #[.string ⟨#[]⟩, .string ⟨#[32, 35, 32, 121]⟩, .string ⟨#[9, 32]⟩, .string ⟨#[35, 122]⟩] 9) = V3 at hh3 ⊢
                refine wpAnyH_sub (R := SB w9 [(V2.heap.size, .cells #[.string ⟨#[]⟩, .string ⟨#[32, 35, 32, 121]⟩, .string ⟨#[9, 32]⟩, .string ⟨#[35, 122]⟩] 9 (0, 0)), (V0.heap.size, .cells #[.string ⟨#[]⟩, .string ⟨#[32]⟩, .string ⟨#[9]⟩, .string ⟨#[10, 35, 120, 10]⟩] 9 (0, 0))]) (fun _ h => h.sub) _ _ _ _ ?_
                refine wpAnyH_take (i := 11) (oi := _) (v := ?_) rfl (by kernel_rfl) (by kernel_rfl) (by kernel_rfl) (fun _ _ _ h => h) (Or.inl ⟨by rfl, ?_⟩) (by assumption) ?_
                rotate_left 1
                · intro w hSw
                  (first | (go_simp; done) | (go_simp; with_reducible rfl) | (go_simp; rw [if_neg (Nat.not_lt.2 (by assumption))]))
                (try simp only [Act.put, List.getElem_toArray, List.getElem_cons_succ, List.getElem_cons_zero, List.setIfInBounds_toArray, List.set_cons_zero, List.set_cons_succ])
                refine wpAnyH_take (i := 12) (oi := _) (v := ?_) rfl (by kernel_rfl) (by kernel_rfl) (by kernel_rfl) (fun _ _ _ h => h) (Or.inl ⟨by rfl, ?_⟩) (by assumption) ?_
                rotate_left 1
                · intro w hSw
                  have cq : w.cell? ⟨V2.heap.size, kk, none⟩ = some (.string (str xB)) := (hSw.cell (g := V2.heap.size) (vs := #[.string ⟨#[]⟩, .string ⟨#[32, 35, 32, 121]⟩, .string ⟨#[9, 32]⟩, .string ⟨#[35, 122]⟩]) (t := 9) (.head _) kk).trans HrB.out
                  (first | (go_simp; done) | (go_simp; with_reducible rfl) | (go_simp; rw [if_neg (Nat.not_lt.2 (by assumption))]))
                (try simp only [Act.put, List.getElem_toArray, List.getElem_cons_succ, List.getElem_cons_zero, List.setIfInBounds_toArray, List.set_cons_zero, List.set_cons_succ])
                refine wpAnyH_take (i := 13) (oi := _) (v := ?_) rfl (by kernel_rfl) (by kernel_rfl) (by kernel_rfl) (fun _ _ _ h => h) (Or.inl ⟨by rfl, ?_⟩) (by assumption) ?_
                rotate_left 1
                · intro w hSw
                  (first | (go_simp; done) | (go_simp; with_reducible rfl) | (go_simp; rw [if_neg (Nat.not_lt.2 (by assumption))]))
                (try simp only [Act.put, List.getElem_toArray, List.getElem_cons_succ, List.getElem_cons_zero, List.setIfInBounds_toArray, List.set_cons_zero, List.set_cons_succ])
                refine wpAnyH_take (i := 14) (oi := _) (v := ?_) rfl (by kernel_rfl) (by kernel_rfl) (by kernel_rfl) (fun _ _ _ h => h) (Or.inl ⟨by rfl, ?_⟩) (by assumption) ?_
                rotate_left 1
                · intro w hSw
                  (first | (go_simp; done) | (go_simp; with_reducible rfl) | (go_simp; rw [if_neg (Nat.not_lt.2 (by assumption))]))
                (try simp only [Act.put, List.getElem_toArray, List.getElem_cons_succ, List.getElem_cons_zero, List.setIfInBounds_toArray, List.set_cons_zero, List.set_cons_succ])
                refine wpAnyH_ready (rs := [15]) (by kernel_rfl) (by simp) ?_
                refine AllReadyH.cons (o := _) rfl (fun K hK => ?_) ?_
                · go_simp
                  refine hK.out _ _ (hh3.step (al1 _ _)) (fun hh4a => ?_)
                  clear hK K
                  (try simp only [Act.put, List.getElem_toArray, List.getElem_cons_succ, List.getElem_cons_zero, List.setIfInBounds_toArray, List.set_cons_zero, List.set_cons_succ])
                  have hh4 := hh4a.add (heap_alloc_new V3 (.cells #[.string ⟨#[]⟩, .string ⟨#[10]⟩, .string ⟨#[32, 10]⟩, .string ⟨#[35, 10]⟩] 9))
                  clear hh4a
                  generalize V3.alloc (.cells #[.string ⟨#[]⟩, .string ⟨#[10]⟩, .string ⟨#[32, 10]⟩, .string ⟨#[35, 10]⟩] 9) = V4 at hh4 ⊢
                  refine wpAnyH_sub (R := SB w9 [(V3.heap.size, .cells #[.string ⟨#[]⟩, .string ⟨#[10]⟩, .string ⟨#[32, 10]⟩, .string ⟨#[35, 10]⟩] 9 (0, 0)), (V2.heap.size, .cells #[.string ⟨#[]⟩, .string ⟨#[32, 35, 32, 121]⟩, .string ⟨#[9, 32]⟩, .string ⟨#[35, 122]⟩] 9 (0, 0)), (V0.heap.size, .cells #[.string ⟨#[]⟩, .string ⟨#[32]⟩, .string ⟨#[9]⟩, .string ⟨#[10, 35, 120, 10]⟩] 9 (0, 0))]) (fun _ h => h.sub) _ _ _ _ ?_
                  refine wpAnyH_take (i := 17) (oi := _) (v := ?_) rfl (by kernel_rfl) (by kernel_rfl) (by kernel_rfl) (fun _ _ _ h => h) (Or.inl ⟨by rfl, ?_⟩) (by assumption) ?_
                  rotate_left 1
                  · intro w hSw
                    (first | (go_simp; done) | (go_simp; with_reducible rfl) | (go_simp; rw [if_neg (Nat.not_lt.2 (by assumption))]))
                  (try simp only [Act.put, List.getElem_toArray, List.getElem_cons_succ, List.getElem_cons_zero, List.setIfInBounds_toArray, List.set_cons_zero, List.set_cons_succ])
                  refine wpAnyH_take (i := 18) (oi := _) (v := ?_) rfl (by kernel_rfl) (by kernel_rfl) (by kernel_rfl) (fun _ _ _ h => h) (Or.inl ⟨by rfl, ?_⟩) (by assumption) ?_
                  rotate_left 1
                  · intro w hSw
                    have cq : w.cell? ⟨V3.heap.size, kk, none⟩ = some (.string (str xC)) := (hSw.cell (g := V3.heap.size) (vs := #[.string ⟨#[]⟩, .string ⟨#[10]⟩, .string ⟨#[32, 10]⟩, .string ⟨#[35, 10]⟩]) (t := 9) (.head _) kk).trans HrC.out
                    (first | (go_simp; done) | (go_simp; with_reducible rfl) | (go_simp; rw [if_neg (Nat.not_lt.2 (by assumption))]))
                  (try simp only [Act.put, List.getElem_toArray, List.getElem_cons_succ, List.getElem_cons_zero, List.setIfInBounds_toArray, List.set_cons_zero, List.set_cons_succ])
                  refine wpAnyH_take (i := 19) (oi := _) (v := ?_) rfl (by kernel_rfl) (by kernel_rfl) (by kernel_rfl) (fun _ _ _ h => h) (Or.inl ⟨by rfl, ?_⟩) (by assumption) ?_
                  rotate_left 1
                  · intro w hSw
                    (first | (go_simp; done) | (go_simp; with_reducible rfl) | (go_simp; rw [if_neg (Nat.not_lt.2 (by assumption))]))
                  (try simp only [Act.put, List.getElem_toArray, List.getElem_cons_succ, List.getElem_cons_zero, List.setIfInBounds_toArray, List.set_cons_zero, List.set_cons_succ])
                  refine wpAnyH_take (i := 20) (oi := _) (v := ?_) rfl (by kernel_rfl) (by kernel_rfl) (by kernel_rfl) (fun _ _ _ h => h) (Or.inl ⟨by rfl, ?_⟩) (by assumption) ?_
                  rotate_left 1
                  · intro w hSw
                    (first | (go_simp; done) | (go_simp; with_reducible rfl) | (go_simp; rw [if_neg (Nat.not_lt.2 (by assumption))]))
                  (try simp only [Act.put, List.getElem_toArray, List.getElem_cons_succ, List.getElem_cons_zero, List.setIfInBounds_toArray, List.set_cons_zero, List.set_cons_succ])
                  refine wpAnyH_done (by kernel_rfl) ?_ _
                  go_wp2
                  go_roundw
                  case rel => exact HFI.out _ hh4.bel
                  case measure => simp [intOf]; omega
                exact AllReadyH.nil
              refine AllReadyH.cons (o := _) rfl (fun K hK => ?_) ?_
              · go_simp
                refine hK.out _ _ (hh2.step (al1 _ _)) (fun hh5a => ?_)
                clear hK K
                (try simp only [Act.put, List.getElem_toArray, List.getElem_cons_succ, List.getElem_cons_zero, List.setIfInBounds_toArray, List.set_cons_zero, List.set_cons_succ])
                have hh5 := hh5a.add (heap_alloc_new V2 (.cells #[.string ⟨#[]⟩, .string ⟨#[10]⟩, .string ⟨#[32, 10]⟩, .string ⟨#[35, 10]⟩] 9))
                clear hh5a
                generalize V2.alloc (.cells #[.string ⟨#[]⟩, .string ⟨#[10]⟩, .string ⟨#[32, 10]⟩, .string ⟨#[35, 10]⟩] 9) = V5 at hh5 ⊢
                refine wpAnyH_sub (R := SB w9 [(V2.heap.size, .cells #[.string ⟨#[]⟩, .string ⟨#[10]⟩, .string ⟨#[32, 10]⟩, .string ⟨#[35, 10]⟩] 9 (0, 0)), (V0.heap.size, .cells #[.string ⟨#[]⟩, .string ⟨#[32]⟩, .string ⟨#[9]⟩, .string ⟨#[10, 35, 120, 10]⟩] 9 (0, 0))]) (fun _ h => h.sub) _ _ _ _ ?_
                refine wpAnyH_take (i := 17) (oi := _) (v := ?_) rfl (by kernel_rfl) (by kernel_rfl) (by kernel_rfl) (fun _ _ _ h => h) (Or.inl ⟨by rfl, ?_⟩) (by assumption) ?_
                rotate_left 1
                · intro w hSw
                  (first | (go_simp; done) | (go_simp; with_reducible rfl) | (go_simp; rw [if_neg (Nat.not_lt.2 (by assumption))]))
                (try simp only [Act.put, List.getElem_toArray, List.getElem_cons_succ, List.getElem_cons_zero, List.setIfInBounds_toArray, List.set_cons_zero, List.set_cons_succ])
                refine wpAnyH_take (i := 18) (oi := _) (v := ?_) rfl (by kernel_rfl) (by kernel_rfl) (by kernel_rfl) (fun _ _ _ h => h) (Or.inl ⟨by rfl, ?_⟩) (by assumption) ?_
                rotate_left 1
                · intro w hSw
                  have cq : w.cell? ⟨V2.heap.size, kk, none⟩ = some (.string (str xC)) := (hSw.cell (g := V2.heap.size) (vs := #[.string ⟨#[]⟩, .string ⟨#[10]⟩, .string ⟨#[32, 10]⟩, .string ⟨#[35, 10]⟩]) (t := 9) (.head _) kk).trans HrC.out
                  (first | (go_simp; done) | (go_simp; with_reducible rfl) | (go_simp; rw [if_neg (Nat.not_lt.2 (by assumption))]))
                (try simp only [Act.put, List.getElem_toArray, List.getElem_cons_succ, List.getElem_cons_zero, List.setIfInBounds_toArray, List.set_cons_zero, List.set_cons_succ])
                refine wpAnyH_ready (rs := [9]) (by kernel_rfl) (by simp) ?_
                refine AllReadyH.cons (o := _) rfl (fun K hK => ?_) ?_
                · go_simp
                  refine hK.out _ _ (hh5.step (al1 _ _)) (fun hh6a => ?_)
                  clear hK K
                  (try simp only [Act.put, List.getElem_toArray, List.getElem_cons_succ, List.getElem_cons_zero, List.setIfInBounds_toArray, List.set_cons_zero, List.set_cons_succ])
                  have hh6 := hh6a.add (heap_alloc_new V5 (.cells #[.string ⟨#[]⟩, .string ⟨#[32, 35, 32, 121]⟩, .string ⟨#[9, 32]⟩, .string ⟨#[35, 122]⟩] 9))
                  clear hh6a
                  generalize V5.alloc (.cells #[.string ⟨#[]⟩, .string ⟨#[32, 35, 32, 121]⟩, .string ⟨#[9, 32]⟩, .string ⟨#[35, 122]⟩] 9) = V6 at hh6 ⊢
                  refine wpAnyH_sub (R := SB w9 [(V5.heap.size, .cells #[.string ⟨#[]⟩, .string ⟨#[32, 35, 32, 121]⟩, .string ⟨#[9, 32]⟩, .string ⟨#[35, 122]⟩] 9 (0, 0)), (V2.heap.size, .cells #[.string ⟨#[]⟩, .string ⟨#[10]⟩, .string ⟨#[32, 10]⟩, .string ⟨#[35, 10]⟩] 9 (0, 0)), (V0.heap.size, .cells #[.string ⟨#[]⟩, .string ⟨#[32]⟩, .string ⟨#[9]⟩, .string ⟨#[10, 35, 120, 10]⟩] 9 (0, 0))]) (fun _ h => h.sub) _ _ _ _ ?_
                  refine wpAnyH_take (i := 11) (oi := _) (v := ?_) rfl (by kernel_rfl) (by kernel_rfl) (by kernel_rfl) (fun _ _ _ h => h) (Or.inl ⟨by rfl, ?_⟩) (by assumption) ?_
                  rotate_left 1
                  · intro w hSw
                    (first | (go_simp; done) | (go_simp; with_reducible rfl) | (go_simp; rw [if_neg (Nat.not_lt.2 (by assumption))]))
                  (try simp only [Act.put, List.getElem_toArray, List.getElem_cons_succ, List.getElem_cons_zero, List.setIfInBounds_toArray, List.set_cons_zero, List.set_cons_succ])
                  refine wpAnyH_take (i := 12) (oi := _) (v := ?_) rfl (by kernel_rfl) (by kernel_rfl) (by kernel_rfl) (fun _ _ _ h => h) (Or.inl ⟨by rfl, ?_⟩) (by assumption) ?_
                  rotate_left 1
                  · intro w hSw
                    have cq : w.cell? ⟨V5.heap.size, kk, none⟩ = some (.string (str xB)) := (hSw.cell (g := V5.heap.size) (vs := #[.string ⟨#[]⟩, .string ⟨#[32, 35, 32, 121]⟩, .string ⟨#[9, 32]⟩, .string ⟨#[35, 122]⟩]) (t := 9) (.head _) kk).trans HrB.out
                    (first | (go_simp; done) | (go_simp; with_reducible rfl) | (go_simp; rw [if_neg (Nat.not_lt.2 (by assumption))]))
                  (try simp only [Act.put, List.getElem_toArray, List.getElem_cons_succ, List.getElem_cons_zero, List.setIfInBounds_toArray, List.set_cons_zero, List.set_cons_succ])
                  refine wpAnyH_take (i := 13) (oi := _) (v := ?_) rfl (by kernel_rfl) (by kernel_rfl) (by kernel_rfl) (fun _ _ _ h => h) (Or.inl ⟨by rfl, ?_⟩) (by assumption) ?_
                  rotate_left 1
                  · intro w hSw
                    (first | (go_simp; done) | (go_simp; with_reducible rfl) | (go_simp; rw [if_neg (Nat.not_lt.2 (by assumption))]))
                  (try simp only [Act.put, List.getElem_toArray, List.getElem_cons_succ, List.getElem_cons_zero, List.setIfInBounds_toArray, List.set_cons_zero, List.set_cons_succ])
                  refine wpAnyH_take (i := 14) (oi := _) (v := ?_) rfl (by kernel_rfl) (by kernel_rfl) (by kernel_rfl) (fun _ _ _ h => h) (Or.inl ⟨by rfl, ?_⟩) (by assumption) ?_
                  rotate_left 1
                  · intro w hSw
                    (first | (go_simp; done) | (go_simp; with_reducible rfl) | (go_simp; rw [if_neg (Nat.not_lt.2 (by assumption))]))
                  (try simp only [Act.put, List.getElem_toArray, List.getElem_cons_succ, List.getElem_cons_zero, List.setIfInBounds_toArray, List.set_cons_zero, List.set_cons_succ])
                  refine wpAnyH_take (i := 19) (oi := _) (v := ?_) rfl (by kernel_rfl) (by kernel_rfl) (by kernel_rfl) (fun _ _ _ h => h) (Or.inl ⟨by rfl, ?_⟩) (by assumption) ?_
                  rotate_left 1
                  · intro w hSw
                    (first | (go_simp; done) | (go_simp; with_reducible rfl) | (go_simp; rw [if_neg (Nat.not_lt.2 (by assumption))]))
                  (try simp only [Act.put, List.getElem_toArray, List.getElem_cons_succ, List.getElem_cons_zero, List.setIfInBounds_toArray, List.set_cons_zero, List.set_cons_succ])
                  refine wpAnyH_take (i := 20) (oi := _) (v := ?_) rfl (by kernel_rfl) (by kernel_rfl) (by kernel_rfl) (fun _ _ _ h => h) (Or.inl ⟨by rfl, ?_⟩) (by assumption) ?_
                  rotate_left 1
                  · intro w hSw
                    (first | (go_simp; done) | (go_simp; with_reducible rfl) | (go_simp; rw [if_neg (Nat.not_lt.2 (by assumption))]))
                  (try simp only [Act.put, List.getElem_toArray, List.getElem_cons_succ, List.getElem_cons_zero, List.setIfInBounds_toArray, List.set_cons_zero, List.set_cons_succ])
                  refine wpAnyH_done (by kernel_rfl) ?_ _
                  go_wp2
                  go_roundw
                  case rel => exact HFI.out _ hh6.bel
                  case measure => simp [intOf]; omega
                exact AllReadyH.nil
              exact AllReadyH.nil
            refine AllReadyH.cons (o := _) rfl (fun K hK => ?_) ?_
            · go_simp
              refine hK.out _ _ (hh1.step (al1 _ _)) (fun hh7a => ?_)
              clear hK K
              (try simp only [Act.put, List.getElem_toArray, List.getElem_cons_succ, List.getElem_cons_zero, List.setIfInBounds_toArray, List.set_cons_zero, List.set_cons_succ])
              have hh7 := hh7a.add (heap_alloc_new V1 (.cells #[.string ⟨#[]⟩, .string ⟨#[32, 35, 32, 121]⟩, .string ⟨#[9, 32]⟩, .string ⟨#[35, 122]⟩] 9))
              clear hh7a
              generalize V1.alloc (.cells #[.string ⟨#[]⟩, .string ⟨#[32, 35, 32, 121]⟩, .string ⟨#[9, 32]⟩, .string ⟨#[35, 122]⟩] 9) = V7 at hh7 ⊢
              refine wpAnyH_sub (R := SB w9 [(V1.heap.size, .cells #[.string ⟨#[]⟩, .string ⟨#[32, 35, 32, 121]⟩, .string ⟨#[9, 32]⟩, .string ⟨#[35, 122]⟩] 9 (0, 0)), (V0.heap.size, .cells #[.string ⟨#[]⟩, .string ⟨#[32]⟩, .string ⟨#[9]⟩, .string ⟨#[10, 35, 120, 10]⟩] 9 (0, 0))]) (fun _ h => h.sub) _ _ _ _ ?_
              refine wpAnyH_take (i := 11) (oi := _) (v := ?_) rfl (by kernel_rfl) (by kernel_rfl) (by kernel_rfl) (fun _ _ _ h => h) (Or.inl ⟨by rfl, ?_⟩) (by assumption) ?_
              rotate_left 1
              · intro w hSw
                (first | (go_simp; done) | (go_simp; with_reducible rfl) | (go_simp; rw [if_neg (Nat.not_lt.2 (by assumption))]))
              (try simp only [Act.put, List.getElem_toArray, List.getElem_cons_succ, List.getElem_cons_zero, List.setIfInBounds_toArray, List.set_cons_zero, List.set_cons_succ])
              refine wpAnyH_take (i := 12) (oi := _) (v := ?_) rfl (by kernel_rfl) (by kernel_rfl) (by kernel_rfl) (fun _ _ _ h => h) (Or.inl ⟨by rfl, ?_⟩) (by assumption) ?_
              rotate_left 1
              · intro w hSw
                have cq : w.cell? ⟨V1.heap.size, kk, none⟩ = some (.string (str xB)) := (hSw.cell (g := V1.heap.size) (vs := #[.string ⟨#[]⟩, .string ⟨#[32, 35, 32, 121]⟩, .string ⟨#[9, 32]⟩, .string ⟨#[35, 122]⟩]) (t := 9) (.head _) kk).trans HrB.out
                (first | (go_simp; done) | (go_simp; with_reducible rfl) | (go_simp; rw [if_neg (Nat.not_lt.2 (by assumption))]))
              (try simp only [Act.put, List.getElem_toArray, List.getElem_cons_succ, List.getElem_cons_zero, List.setIfInBounds_toArray, List.set_cons_zero, List.set_cons_succ])
              refine wpAnyH_ready (rs := [7, 15]) (by kernel_rfl) (by simp) ?_
              refine AllReadyH.cons (o := _) rfl (fun K hK => ?_) ?_
              · go_simp
                (go_at_call 10)
                ((with_reducible refine (HLN.out _ hh7.bel).mono ?_))
                rintro e V8 ⟨rfl, hbl⟩
                refine hK.out _ _ (hh7.step hbl) (fun hh8 => ?_)
                clear hK K hbl
                (try simp only [Act.put, List.getElem_toArray, List.getElem_cons_succ, List.getElem_cons_zero, List.setIfInBounds_toArray, List.set_cons_zero, List.set_cons_succ])
                refine wpAnyH_take (i := 8) (oi := _) (v := ?_) rfl (by kernel_rfl) (by kernel_rfl) (by kernel_rfl) (fun _ _ _ h => h) (Or.inl ⟨by rfl, ?_⟩) (by assumption) ?_
                rotate_left 1
                · intro w hSw
                  (first | (go_simp; done) | (go_simp; with_reducible rfl) | (go_simp; rw [if_neg (Nat.not_lt.2 (by assumption))]))
                (try simp only [Act.put, List.getElem_toArray, List.getElem_cons_succ, List.getElem_cons_zero, List.setIfInBounds_toArray, List.set_cons_zero, List.set_cons_succ])
                refine wpAnyH_take (i := 13) (oi := _) (v := ?_) rfl (by kernel_rfl) (by kernel_rfl) (by kernel_rfl) (fun _ _ _ h => h) (Or.inl ⟨by rfl, ?_⟩) (by assumption) ?_
                rotate_left 1
                · intro w hSw
                  (first | (go_simp; done) | (go_simp; with_reducible rfl) | (go_simp; rw [if_neg (Nat.not_lt.2 (by assumption))]))
                (try simp only [Act.put, List.getElem_toArray, List.getElem_cons_succ, List.getElem_cons_zero, List.setIfInBounds_toArray, List.set_cons_zero, List.set_cons_succ])
                refine wpAnyH_take (i := 14) (oi := _) (v := ?_) rfl (by kernel_rfl) (by kernel_rfl) (by kernel_rfl) (fun _ _ _ h => h) (Or.inl ⟨by rfl, ?_⟩) (by assumption) ?_
                rotate_left 1
                · intro w hSw
                  (first | (go_simp; done) | (go_simp; with_reducible rfl) | (go_simp; rw [if_neg (Nat.not_lt.2 (by assumption))]))
                (try simp only [Act.put, List.getElem_toArray, List.getElem_cons_succ, List.getElem_cons_zero, List.setIfInBounds_toArray, List.set_cons_zero, List.set_cons_succ])
                refine wpAnyH_ready (rs := [15]) (by kernel_rfl) (by simp) ?_
                refine AllReadyH.cons (o := _) rfl (fun K hK => ?_) ?_
                · go_simp
                  refine hK.out _ _ (hh8.step (al1 _ _)) (fun hh9a => ?_)
                  clear hK K
                  (try simp only [Act.put, List.getElem_toArray, List.getElem_cons_succ, List.getElem_cons_zero, List.setIfInBounds_toArray, List.set_cons_zero, List.set_cons_succ])
                  have hh9 := hh9a.add (heap_alloc_new V8 (.cells #[.string ⟨#[]⟩, .string ⟨#[10]⟩, .string ⟨#[32, 10]⟩, .string ⟨#[35, 10]⟩] 9))
                  clear hh9a
                  generalize V8.alloc (.cells #[.string ⟨#[]⟩, .string ⟨#[10]⟩, .string ⟨#[32, 10]⟩, .string ⟨#[35, 10]⟩] 9) = V9 at hh9 ⊢
                  refine wpAnyH_sub (R := SB w9 [(V8.heap.size, .cells #[.string ⟨#[]⟩, .string ⟨#[10]⟩, .string ⟨#[32, 10]⟩, .string ⟨#[35, 10]⟩] 9 (0, 0)), (V1.heap.size, .cells #[.string ⟨#[]⟩, .string ⟨#[32, 35, 32, 121]⟩, .string ⟨#[9, 32]⟩, .string ⟨#[35, 122]⟩] 9 (0, 0)), (V0.heap.size, .cells #[.string ⟨#[]⟩, .string ⟨#[32]⟩, .string ⟨#[9]⟩, .string ⟨#[10, 35, 120, 10]⟩] 9 (0, 0))]) (fun _ h => h.sub) _ _ _ _ ?_
                  refine wpAnyH_take (i := 17) (oi := _) (v := ?_) rfl (by kernel_rfl) (by kernel_rfl) (by kernel_rfl) (fun _ _ _ h => h) (Or.inl ⟨by rfl, ?_⟩) (by assumption) ?_
                  rotate_left 1
                  · intro w hSw
                    (first | (go_simp; done) | (go_simp; with_reducible rfl) | (go_simp; rw [if_neg (Nat.not_lt.2 (by assumption))]))
                  (try simp only [Act.put, List.getElem_toArray, List.getElem_cons_succ, List.getElem_cons_zero, List.setIfInBounds_toArray, List.set_cons_zero, List.set_cons_succ])
                  refine wpAnyH_take (i := 18) (oi := _) (v := ?_) rfl (by kernel_rfl) (by kernel_rfl) (by kernel_rfl) (fun _ _ _ h => h) (Or.inl ⟨by rfl, ?_⟩) (by assumption) ?_
                  rotate_left 1
                  · intro w hSw
                    have cq : w.cell? ⟨V8.heap.size, kk, none⟩ = some (.string (str xC)) := (hSw.cell (g := V8.heap.size) (vs := #[.string ⟨#[]⟩, .string ⟨#[10]⟩, .string ⟨#[32, 10]⟩, .string ⟨#[35, 10]⟩]) (t := 9) (.head _) kk).trans HrC.out
                    (first | (go_simp; done) | (go_simp; with_reducible rfl) | (go_simp; rw [if_neg (Nat.not_lt.2 (by assumption))]))
                  (try simp only [Act.put, List.getElem_toArray, List.getElem_cons_succ, List.getElem_cons_zero, List.setIfInBounds_toArray, List.set_cons_zero, List.set_cons_succ])
                  refine wpAnyH_take (i := 19) (oi := _) (v := ?_) rfl (by kernel_rfl) (by kernel_rfl) (by kernel_rfl) (fun _ _ _ h => h) (Or.inl ⟨by rfl, ?_⟩) (by assumption) ?_
                  rotate_left 1
                  · intro w hSw
                    (first | (go_simp; done) | (go_simp; with_reducible rfl) | (go_simp; rw [if_neg (Nat.not_lt.2 (by assumption))]))
                  (try simp only [Act.put, List.getElem_toArray, List.getElem_cons_succ, List.getElem_cons_zero, List.setIfInBounds_toArray, List.set_cons_zero, List.set_cons_succ])
                  refine wpAnyH_take (i := 20) (oi := _) (v := ?_) rfl (by kernel_rfl) (by kernel_rfl) (by kernel_rfl) (fun _ _ _ h => h) (Or.inl ⟨by rfl, ?_⟩) (by assumption) ?_
                  rotate_left 1
                  · intro w hSw
                    (first | (go_simp; done) | (go_simp; with_reducible rfl) | (go_simp; rw [if_neg (Nat.not_lt.2 (by assumption))]))
                  (try simp only [Act.put, List.getElem_toArray, List.getElem_cons_succ, List.getElem_cons_zero, List.setIfInBounds_toArray, List.set_cons_zero, List.set_cons_succ])
                  refine wpAnyH_done (by kernel_rfl) ?_ _
                  go_wp2
                  go_roundw
                  case rel => exact HFI.out _ hh9.bel
                  case measure => simp [intOf]; omega
                exact AllReadyH.nil
              refine AllReadyH.cons (o := _) rfl (fun K hK => ?_) ?_
              · go_simp
                refine hK.out _ _ (hh7.step (al1 _ _)) (fun hh10a => ?_)
                clear hK K
                (try simp only [Act.put, List.getElem_toArray, List.getElem_cons_succ, List.getElem_cons_zero, List.setIfInBounds_toArray, List.set_cons_zero, List.set_cons_succ])
                have hh10 := hh10a.add (heap_alloc_new V7 (.cells #[.string ⟨#[]⟩, .string ⟨#[10]⟩, .string ⟨#[32, 10]⟩, .string ⟨#[35, 10]⟩] 9))
                clear hh10a
                generalize V7.alloc (.cells #[.string ⟨#[]⟩, .string ⟨#[10]⟩, .string ⟨#[32, 10]⟩, .string ⟨#[35, 10]⟩] 9) = V10 at hh10 ⊢
                refine wpAnyH_sub (R := SB w9 [(V7.heap.size, .cells #[.string ⟨#[]⟩, .string ⟨#[10]⟩, .string ⟨#[32, 10]⟩, .string ⟨#[35, 10]⟩] 9 (0, 0)), (V1.heap.size, .cells #[.string ⟨#[]⟩, .string ⟨#[32, 35, 32, 121]⟩, .string ⟨#[9, 32]⟩, .string ⟨#[35, 122]⟩] 9 (0, 0)), (V0.heap.size, .cells #[.string ⟨#[]⟩, .string ⟨#[32]⟩, .string ⟨#[9]⟩, .string ⟨#[10, 35, 120, 10]⟩] 9 (0, 0))]) (fun _ h => h.sub) _ _ _ _ ?_
                refine wpAnyH_take (i := 17) (oi := _) (v := ?_) rfl (by kernel_rfl) (by kernel_rfl) (by kernel_rfl) (fun _ _ _ h => h) (Or.inl ⟨by rfl, ?_⟩) (by assumption) ?_
                rotate_left 1
                · intro w hSw
                  (first | (go_simp; done) | (go_simp; with_reducible rfl) | (go_simp; rw [if_neg (Nat.not_lt.2 (by assumption))]))
                (try simp only [Act.put, List.getElem_toArray, List.getElem_cons_succ, List.getElem_cons_zero, List.setIfInBounds_toArray, List.set_cons_zero, List.set_cons_succ])
                refine wpAnyH_take (i := 18) (oi := _) (v := ?_) rfl (by kernel_rfl) (by kernel_rfl) (by kernel_rfl) (fun _ _ _ h => h) (Or.inl ⟨by rfl, ?_⟩) (by assumption) ?_
                rotate_left 1
                · intro w hSw
                  have cq : w.cell? ⟨V7.heap.size, kk, none⟩ = some (.string (str xC)) := (hSw.cell (g := V7.heap.size) (vs := #[.string ⟨#[]⟩, .string ⟨#[10]⟩, .string ⟨#[32, 10]⟩, .string ⟨#[35, 10]⟩]) (t := 9) (.head _) kk).trans HrC.out
                  (first | (go_simp; done) | (go_simp; with_reducible rfl) | (go_simp; rw [if_neg (Nat.not_lt.2 (by assumption))]))
                (try simp only [Act.put, List.getElem_toArray, List.getElem_cons_succ, List.getElem_cons_zero, List.setIfInBounds_toArray, List.set_cons_zero, List.set_cons_succ])
                refine wpAnyH_ready (rs := [7]) (by kernel_rfl) (by simp) ?_
                refine AllReadyH.cons (o := _) rfl (fun K hK => ?_) ?_
                · go_simp
                  (go_at_call 10)
                  ((with_reducible refine (HLN.out _ hh10.bel).mono ?_))
                  rintro e V11 ⟨rfl, hbl⟩
                  refine hK.out _ _ (hh10.step hbl) (fun hh11 => ?_)
                  clear hK K hbl
                  (try simp only [Act.put, List.getElem_toArray, List.getElem_cons_succ, List.getElem_cons_zero, List.setIfInBounds_toArray, List.set_cons_zero, List.set_cons_succ])
                  refine wpAnyH_take (i := 8) (oi := _) (v := ?_) rfl (by kernel_rfl) (by kernel_rfl) (by kernel_rfl) (fun _ _ _ h => h) (Or.inl ⟨by rfl, ?_⟩) (by assumption) ?_
                  rotate_left 1
                  · intro w hSw
                    (first | (go_simp; done) | (go_simp; with_reducible rfl) | (go_simp; rw [if_neg (Nat.not_lt.2 (by assumption))]))
                  (try simp only [Act.put, List.getElem_toArray, List.getElem_cons_succ, List.getElem_cons_zero, List.setIfInBounds_toArray, List.set_cons_zero, List.set_cons_succ])
                  refine wpAnyH_take (i := 13) (oi := _) (v := ?_) rfl (by kernel_rfl) (by kernel_rfl) (by kernel_rfl) (fun _ _ _ h => h) (Or.inl ⟨by rfl, ?_⟩) (by assumption) ?_
                  rotate_left 1
                  · intro w hSw
                    (first | (go_simp; done) | (go_simp; with_reducible rfl) | (go_simp; rw [if_neg (Nat.not_lt.2 (by assumption))]))
                  (try simp only [Act.put, List.getElem_toArray, List.getElem_cons_succ, List.getElem_cons_zero, List.setIfInBounds_toArray, List.set_cons_zero, List.set_cons_succ])
                  refine wpAnyH_take (i := 14) (oi := _) (v := ?_) rfl (by kernel_rfl) (by kernel_rfl) (by kernel_rfl) (fun _ _ _ h => h) (Or.inl ⟨by rfl, ?_⟩) (by assumption) ?_
                  rotate_left 1
                  · intro w hSw
                    (first | (go_simp; done) | (go_simp; with_reducible rfl) | (go_simp; rw [if_neg (Nat.not_lt.2 (by assumption))]))
                  (try simp only [Act.put, List.getElem_toArray, List.getElem_cons_succ, List.getElem_cons_zero, List.setIfInBounds_toArray, List.set_cons_zero, List.set_cons_succ])
                  refine wpAnyH_take (i := 19) (oi := _) (v := ?_) rfl (by kernel_rfl) (by kernel_rfl) (by kernel_rfl) (fun _ _ _ h => h) (Or.inl ⟨by rfl, ?_⟩) (by assumption) ?_
                  rotate_left 1
                  · intro w hSw
                    (first | (go_simp; done) | (go_simp; with_reducible rfl) | (go_simp; rw [if_neg (Nat.not_lt.2 (by assumption))]))
                  (try simp only [Act.put, List.getElem_toArray, List.getElem_cons_succ, List.getElem_cons_zero, List.setIfInBounds_toArray, List.set_cons_zero, List.set_cons_succ])
                  refine wpAnyH_take (i := 20) (oi := _) (v := ?_) rfl (by kernel_rfl) (by kernel_rfl) (by kernel_rfl) (fun _ _ _ h => h) (Or.inl ⟨by rfl, ?_⟩) (by assumption) ?_
                  rotate_left 1
                  · intro w hSw
                    (first | (go_simp; done) | (go_simp; with_reducible rfl) | (go_simp; rw [if_neg (Nat.not_lt.2 (by assumption))]))
                  (try simp only [Act.put, List.getElem_toArray, List.getElem_cons_succ, List.getElem_cons_zero, List.setIfInBounds_toArray, List.set_cons_zero, List.set_cons_succ])
                  refine wpAnyH_done (by kernel_rfl) ?_ _
                  go_wp2
                  go_roundw
                  case rel => exact HFI.out _ hh11.bel
                  case measure => simp [intOf]; omega
                exact AllReadyH.nil
              exact AllReadyH.nil
            refine AllReadyH.cons (o := _) rfl (fun K hK => ?_) ?_
            · go_simp
              refine hK.out _ _ (hh1.step (al1 _ _)) (fun hh12a => ?_)
              clear hK K
              (try simp only [Act.put, List.getElem_toArray, List.getElem_cons_succ, List.getElem_cons_zero, List.setIfInBounds_toArray, List.set_cons_zero, List.set_cons_succ])
              have hh12 := hh12a.add (heap_alloc_new V1 (.cells #[.string ⟨#[]⟩, .string ⟨#[10]⟩, .string ⟨#[32, 10]⟩, .string ⟨#[35, 10]⟩] 9))
              clear hh12a
              generalize V1.alloc (.cells #[.string ⟨#[]⟩, .string ⟨#[10]⟩, .string ⟨#[32, 10]⟩, .string ⟨#[35, 10]⟩] 9) = V12 at hh12 ⊢
              refine wpAnyH_sub (R := SB w9 [(V1.heap.size, .cells #[.string ⟨#[]⟩, .string ⟨#[10]⟩, .string ⟨#[32, 10]⟩, .string ⟨#[35, 10]⟩] 9 (0, 0)), (V0.heap.size, .cells #[.string ⟨#[]⟩, .string ⟨#[32]⟩, .string ⟨#[9]⟩, .string ⟨#[10, 35, 120, 10]⟩] 9 (0, 0))]) (fun _ h => h.sub) _ _ _ _ ?_
              refine wpAnyH_take (i := 17) (oi := _) (v := ?_) rfl (by kernel_rfl) (by kernel_rfl) (by kernel_rfl) (fun _ _ _ h => h) (Or.inl ⟨by rfl, ?_⟩) (by assumption) ?_
              rotate_left 1
              · intro w hSw
                (first | (go_simp; done) | (go_simp; with_reducible rfl) | (go_simp; rw [if_neg (Nat.not_lt.2 (by assumption))]))
              (try simp only [Act.put, List.getElem_toArray, List.getElem_cons_succ, List.getElem_cons_zero, List.setIfInBounds_toArray, List.set_cons_zero, List.set_cons_succ])
              refine wpAnyH_take (i := 18) (oi := _) (v := ?_) rfl (by kernel_rfl) (by kernel_rfl) (by kernel_rfl) (fun _ _ _ h => h) (Or.inl ⟨by rfl, ?_⟩) (by assumption) ?_
              rotate_left 1
              · intro w hSw
                have cq : w.cell? ⟨V1.heap.size, kk, none⟩ = some (.string (str xC)) := (hSw.cell (g := V1.heap.size) (vs := #[.string ⟨#[]⟩, .string ⟨#[10]⟩, .string ⟨#[32, 10]⟩, .string ⟨#[35, 10]⟩]) (t := 9) (.head _) kk).trans HrC.out
                (first | (go_simp; done) | (go_simp; with_reducible rfl) | (go_simp; rw [if_neg (Nat.not_lt.2 (by assumption))]))
              (try simp only [Act.put, List.getElem_toArray, List.getElem_cons_succ, List.getElem_cons_zero, List.setIfInBounds_toArray, List.set_cons_zero, List.set_cons_succ])
              refine wpAnyH_ready (rs := [7, 9]) (by kernel_rfl) (by simp) ?_
              refine AllReadyH.cons (o := _) rfl (fun K hK => ?_) ?_
              · go_simp
                (go_at_call 10)
                ((with_reducible refine (HLN.out _ hh12.bel).mono ?_))
                rintro e V13 ⟨rfl, hbl⟩
                refine hK.out _ _ (hh12.step hbl) (fun hh13 => ?_)
                clear hK K hbl
                (try simp only [Act.put, List.getElem_toArray, List.getElem_cons_succ, List.getElem_cons_zero, List.setIfInBounds_toArray, List.set_cons_zero, List.set_cons_succ])
                refine wpAnyH_take (i := 8) (oi := _) (v := ?_) rfl (by kernel_rfl) (by kernel_rfl) (by kernel_rfl) (fun _ _ _ h => h) (Or.inl ⟨by rfl, ?_⟩) (by assumption) ?_
                rotate_left 1
                · intro w hSw
                  (first | (go_simp; done) | (go_simp; with_reducible rfl) | (go_simp; rw [if_neg (Nat.not_lt.2 (by assumption))]))
                (try simp only [Act.put, List.getElem_toArray, List.getElem_cons_succ, List.getElem_cons_zero, List.setIfInBounds_toArray, List.set_cons_zero, List.set_cons_succ])
                refine wpAnyH_ready (rs := [9]) (by kernel_rfl) (by simp) ?_
                refine AllReadyH.cons (o := _) rfl (fun K hK => ?_) ?_
                · go_simp
                  refine hK.out _ _ (hh13.step (al1 _ _)) (fun hh14a => ?_)
                  clear hK K
                  (try simp only [Act.put, List.getElem_toArray, List.getElem_cons_succ, List.getElem_cons_zero, List.setIfInBounds_toArray, List.set_cons_zero, List.set_cons_succ])
                  have hh14 := hh14a.add (heap_alloc_new V13 (.cells #[.string ⟨#[]⟩, .string ⟨#[32, 35, 32, 121]⟩, .string ⟨#[9, 32]⟩, .string ⟨#[35, 122]⟩] 9))
                  clear hh14a
                  generalize V13.alloc (.cells #[.string ⟨#[]⟩, .string ⟨#[32, 35, 32, 121]⟩, .string ⟨#[9, 32]⟩, .string ⟨#[35, 122]⟩] 9) = V14 at hh14 ⊢
                  refine wpAnyH_sub (R := SB w9 [(V13.heap.size, .cells #[.string ⟨#[]⟩, .string ⟨#[32, 35, 32, 121]⟩, .string ⟨#[9, 32]⟩, .string ⟨#[35, 122]⟩] 9 (0, 0)), (V1.heap.size, .cells #[.string ⟨#[]⟩, .string ⟨#[10]⟩, .string ⟨#[32, 10]⟩, .string ⟨#[35, 10]⟩] 9 (0, 0)), (V0.heap.size, .cells #[.string ⟨#[]⟩, .string ⟨#[32]⟩, .string ⟨#[9]⟩, .string ⟨#[10, 35, 120, 10]⟩] 9 (0, 0))]) (fun _ h => h.sub) _ _ _ _ ?_
                  refine wpAnyH_take (i := 11) (oi := _) (v := ?_) rfl (by kernel_rfl) (by kernel_rfl) (by kernel_rfl) (fun _ _ _ h => h) (Or.inl ⟨by rfl, ?_⟩) (by assumption) ?_
                  rotate_left 1
                  · intro w hSw
                    (first | (go_simp; done) | (go_simp; with_reducible rfl) | (go_simp; rw [if_neg (Nat.not_lt.2 (by assumption))]))
                  (try simp only [Act.put, List.getElem_toArray, List.getElem_cons_succ, List.getElem_cons_zero, List.setIfInBounds_toArray, List.set_cons_zero, List.set_cons_succ])
                  refine wpAnyH_take (i := 12) (oi := _) (v := ?_) rfl (by kernel_rfl) (by kernel_rfl) (by kernel_rfl) (fun _ _ _ h => h) (Or.inl ⟨by rfl, ?_⟩) (by assumption) ?_
                  rotate_left 1
                  · intro w hSw
                    have cq : w.cell? ⟨V13.heap.size, kk, none⟩ = some (.string (str xB)) := (hSw.cell (g := V13.heap.size) (vs := #[.string ⟨#[]⟩, .string ⟨#[32, 35, 32, 121]⟩, .string ⟨#[9, 32]⟩, .string ⟨#[35, 122]⟩]) (t := 9) (.head _) kk).trans HrB.out
                    (first | (go_simp; done) | (go_simp; with_reducible rfl) | (go_simp; rw [if_neg (Nat.not_lt.2 (by assumption))]))
                  (try simp only [Act.put, List.getElem_toArray, List.getElem_cons_succ, List.getElem_cons_zero, List.setIfInBounds_toArray, List.set_cons_zero, List.set_cons_succ])
                  refine wpAnyH_take (i := 13) (oi := _) (v := ?_) rfl (by kernel_rfl) (by kernel_rfl) (by kernel_rfl) (fun _ _ _ h => h) (Or.inl ⟨by rfl, ?_⟩) (by assumption) ?_
                  rotate_left 1
                  · intro w hSw
                    (first | (go_simp; done) | (go_simp; with_reducible rfl) | (go_simp; rw [if_neg (Nat.not_lt.2 (by assumption))]))
                  (try simp only [Act.put, List.getElem_toArray, List.getElem_cons_succ, List.getElem_cons_zero, List.setIfInBounds_toArray, List.set_cons_zero, List.set_cons_succ])
                  refine wpAnyH_take (i := 14) (oi := _) (v := ?_) rfl (by kernel_rfl) (by kernel_rfl) (by kernel_rfl) (fun _ _ _ h => h) (Or.inl ⟨by rfl, ?_⟩) (by assumption) ?_
                  rotate_left 1
                  · intro w hSw
                    (first | (go_simp; done) | (go_simp; with_reducible rfl) | (go_simp; rw [if_neg (Nat.not_lt.2 (by assumption))]))
                  (try simp only [Act.put, List.getElem_toArray, List.getElem_cons_succ, List.getElem_cons_zero, List.setIfInBounds_toArray, List.set_cons_zero, List.set_cons_succ])
                  refine wpAnyH_take (i := 19) (oi := _) (v := ?_) rfl (by kernel_rfl) (by kernel_rfl) (by kernel_rfl) (fun _ _ _ h => h) (Or.inl ⟨by rfl, ?_⟩) (by assumption) ?_
                  rotate_left 1
                  · intro w hSw
                    (first | (go_simp; done) | (go_simp; with_reducible rfl) | (go_simp; rw [if_neg (Nat.not_lt.2 (by assumption))]))
                  (try simp only [Act.put, List.getElem_toArray, List.getElem_cons_succ, List.getElem_cons_zero, List.setIfInBounds_toArray, List.set_cons_zero, List.set_cons_succ])
                  refine wpAnyH_take (i := 20) (oi := _) (v := ?_) rfl (by kernel_rfl) (by kernel_rfl) (by kernel_rfl) (fun _ _ _ h => h) (Or.inl ⟨by rfl, ?_⟩) (by assumption) ?_
                  rotate_left 1
                  · intro w hSw
                    (first | (go_simp; done) | (go_simp; with_reducible rfl) | (go_simp; rw [if_neg (Nat.not_lt.2 (by assumption))]))
                  (try simp only [Act.put, List.getElem_toArray, List.getElem_cons_succ, List.getElem_cons_zero, List.setIfInBounds_toArray, List.set_cons_zero, List.set_cons_succ])
                  refine wpAnyH_done (by kernel_rfl) ?_ _
                  go_wp2
                  go_roundw
                  case rel => exact HFI.out _ hh14.bel
                  case measure => simp [intOf]; omega
                exact AllReadyH.nil
              refine AllReadyH.cons (o := _) rfl (fun K hK => ?_) ?_
              · go_simp
                refine hK.out _ _ (hh12.step (al1 _ _)) (fun hh15a => ?_)
                clear hK K
                (try simp only [Act.put, List.getElem_toArray, List.getElem_cons_succ, List.getElem_cons_zero, List.setIfInBounds_toArray, List.set_cons_zero, List.set_cons_succ])
                have hh15 := hh15a.add (heap_alloc_new V12 (.cells #[.string ⟨#[]⟩, .string ⟨#[32, 35, 32, 121]⟩, .string ⟨#[9, 32]⟩, .string ⟨#[35, 122]⟩] 9))
                clear hh15a
                generalize V12.alloc (.cells #[.string ⟨#[]⟩, .string ⟨#[32, 35, 32, 121]⟩, .string ⟨#[9, 32]⟩, .string ⟨#[35, 122]⟩] 9) = V15 at hh15 ⊢
                refine wpAnyH_sub (R := SB w9 [(V12.heap.size, .cells #[.string ⟨#[]⟩, .string ⟨#[32, 35, 32, 121]⟩, .string ⟨#[9, 32]⟩, .string ⟨#[35, 122]⟩] 9 (0, 0)), (V1.heap.size, .cells #[.string ⟨#[]⟩, .string ⟨#[10]⟩, .string ⟨#[32, 10]⟩, .string ⟨#[35, 10]⟩] 9 (0, 0)), (V0.heap.size, .cells #[.string ⟨#[]⟩, .string ⟨#[32]⟩, .string ⟨#[9]⟩, .string ⟨#[10, 35, 120, 10]⟩] 9 (0, 0))]) (fun _ h => h.sub) _ _ _ _ ?_
                refine wpAnyH_take (i := 11) (oi := _) (v := ?_) rfl (by kernel_rfl) (by kernel_rfl) (by kernel_rfl) (fun _ _ _ h => h) (Or.inl ⟨by rfl, ?_⟩) (by assumption) ?_
                rotate_left 1
                · intro w hSw
                  (first | (go_simp; done) | (go_simp; with_reducible rfl) | (go_simp; rw [if_neg (Nat.not_lt.2 (by assumption))]))
                (try simp only [Act.put, List.getElem_toArray, List.getElem_cons_succ, List.getElem_cons_zero, List.setIfInBounds_toArray, List.set_cons_zero, List.set_cons_succ])
                refine wpAnyH_take (i := 12) (oi := _) (v := ?_) rfl (by kernel_rfl) (by kernel_rfl) (by kernel_rfl) (fun _ _ _ h => h) (Or.inl ⟨by rfl, ?_⟩) (by assumption) ?_
                rotate_left 1
                · intro w hSw
                  have cq : w.cell? ⟨V12.heap.size, kk, none⟩ = some (.string (str xB)) := (hSw.cell (g := V12.heap.size) (vs := #[.string ⟨#[]⟩, .string ⟨#[32, 35, 32, 121]⟩, .string ⟨#[9, 32]⟩, .string ⟨#[35, 122]⟩]) (t := 9) (.head _) kk).trans HrB.out
                  (first | (go_simp; done) | (go_simp; with_reducible rfl) | (go_simp; rw [if_neg (Nat.not_lt.2 (by assumption))]))
                (try simp only [Act.put, List.getElem_toArray, List.getElem_cons_succ, List.getElem_cons_zero, List.setIfInBounds_toArray, List.set_cons_zero, List.set_cons_succ])
                refine wpAnyH_ready (rs := [7]) (by kernel_rfl) (by simp) ?_
                refine AllReadyH.cons (o := _) rfl (fun K hK => ?_) ?_
                · go_simp
                  (go_at_call 10)
                  ((with_reducible refine (HLN.out _ hh15.bel).mono ?_))
                  rintro e V16 ⟨rfl, hbl⟩
                  refine hK.out _ _ (hh15.step hbl) (fun hh16 => ?_)
                  clear hK K hbl
                  (try simp only [Act.put, List.getElem_toArray, List.getElem_cons_succ, List.getElem_cons_zero, List.setIfInBounds_toArray, List.set_cons_zero, List.set_cons_succ])
                  refine wpAnyH_take (i := 8) (oi := _) (v := ?_) rfl (by kernel_rfl) (by kernel_rfl) (by kernel_rfl) (fun _ _ _ h => h) (Or.inl ⟨by rfl, ?_⟩) (by assumption) ?_
                  rotate_left 1
                  · intro w hSw
                    (first | (go_simp; done) | (go_simp; with_reducible rfl) | (go_simp; rw [if_neg (Nat.not_lt.2 (by assumption))]))
                  (try simp only [Act.put, List.getElem_toArray, List.getElem_cons_succ, List.getElem_cons_zero, List.setIfInBounds_toArray, List.set_cons_zero, List.set_cons_succ])
                  refine wpAnyH_take (i := 13) (oi := _) (v := ?_) rfl (by kernel_rfl) (by kernel_rfl) (by kernel_rfl) (fun _ _ _ h => h) (Or.inl ⟨by rfl, ?_⟩) (by assumption) ?_
                  rotate_left 1
                  · intro w hSw
                    (first | (go_simp; done) | (go_simp; with_reducible rfl) | (go_simp; rw [if_neg (Nat.not_lt.2 (by assumption))]))
                  (try simp only [Act.put, List.getElem_toArray, List.getElem_cons_succ, List.getElem_cons_zero, List.setIfInBounds_toArray, List.set_cons_zero, List.set_cons_succ])
                  refine wpAnyH_take (i := 14) (oi := _) (v := ?_) rfl (by kernel_rfl) (by kernel_rfl) (by kernel_rfl) (fun _ _ _ h => h) (Or.inl ⟨by rfl, ?_⟩) (by assumption) ?_
                  rotate_left 1
                  · intro w hSw
                    (first | (go_simp; done) | (go_simp; with_reducible rfl) | (go_simp; rw [if_neg (Nat.not_lt.2 (by assumption))]))
                  (try simp only [Act.put, List.getElem_toArray, List.getElem_cons_succ, List.getElem_cons_zero, List.setIfInBounds_toArray, List.set_cons_zero, List.set_cons_succ])
                  refine wpAnyH_take (i := 19) (oi := _) (v := ?_) rfl (by kernel_rfl) (by kernel_rfl) (by kernel_rfl) (fun _ _ _ h => h) (Or.inl ⟨by rfl, ?_⟩) (by assumption) ?_
                  rotate_left 1
                  · intro w hSw
                    (first | (go_simp; done) | (go_simp; with_reducible rfl) | (go_simp; rw [if_neg (Nat.not_lt.2 (by assumption))]))
                  (try simp only [Act.put, List.getElem_toArray, List.getElem_cons_succ, List.getElem_cons_zero, List.setIfInBounds_toArray, List.set_cons_zero, List.set_cons_succ])
                  refine wpAnyH_take (i := 20) (oi := _) (v := ?_) rfl (by kernel_rfl) (by kernel_rfl) (by kernel_rfl) (fun _ _ _ h => h) (Or.inl ⟨by rfl, ?_⟩) (by assumption) ?_
                  rotate_left 1
                  · intro w hSw
                    (first | (go_simp; done) | (go_simp; with_reducible rfl) | (go_simp; rw [if_neg (Nat.not_lt.2 (by assumption))]))
                  (try simp only [Act.put, List.getElem_toArray, List.getElem_cons_succ, List.getElem_cons_zero, List.setIfInBounds_toArray, List.set_cons_zero, List.set_cons_succ])
                  refine wpAnyH_done (by kernel_rfl) ?_ _
                  go_wp2
                  go_roundw
                  case rel => exact HFI.out _ hh16.bel
                  case measure => simp [intOf]; omega
                exact AllReadyH.nil
              exact AllReadyH.nil
            exact AllReadyH.nil
          refine AllReadyH.cons (o := _) rfl (fun K hK => ?_) ?_
          · go_simp
            (go_at_call 10)
            ((with_reducible refine (HLN.out _ hh0.bel).mono ?_))
            rintro e V17 ⟨rfl, hbl⟩
            refine hK.out _ _ (hh0.step hbl) (fun hh17 => ?_)
            clear hK K hbl
            (try simp only [Act.put, List.getElem_toArray, List.getElem_cons_succ, List.getElem_cons_zero, List.setIfInBounds_toArray, List.set_cons_zero, List.set_cons_succ])
            refine wpAnyH_ready (rs := [1, 9, 15]) (by kernel_rfl) (by simp) ?_
            refine AllReadyH.cons (o := _) rfl (fun K hK => ?_) ?_
            · go_simp
              refine hK.out _ _ (hh17.step (al1 _ _)) (fun hh18a => ?_)
              clear hK K
              (try simp only [Act.put, List.getElem_toArray, List.getElem_cons_succ, List.getElem_cons_zero, List.setIfInBounds_toArray, List.set_cons_zero, List.set_cons_succ])
              have hh18 := hh18a.add (heap_alloc_new V17 (.cells #[.string ⟨#[]⟩, .string ⟨#[32]⟩, .string ⟨#[9]⟩, .string ⟨#[10, 35, 120, 10]⟩] 9))
              clear hh18a
              generalize V17.alloc (.cells #[.string ⟨#[]⟩, .string ⟨#[32]⟩, .string ⟨#[9]⟩, .string ⟨#[10, 35, 120, 10]⟩] 9) = V18 at hh18 ⊢
              refine wpAnyH_sub (R := SB w9 [(V17.heap.size, .cells #[.string ⟨#[]⟩, .string ⟨#[32]⟩, .string ⟨#[9]⟩, .string ⟨#[10, 35, 120, 10]⟩] 9 (0, 0))]) (fun _ h => h.sub) _ _ _ _ ?_
              refine wpAnyH_take (i := 3) (oi := _) (v := ?_) rfl (by kernel_rfl) (by kernel_rfl) (by kernel_rfl) (fun _ _ _ h => h) (Or.inl ⟨by rfl, ?_⟩) (by assumption) ?_
              rotate_left 1
              · intro w hSw
                (first | (go_simp; done) | (go_simp; with_reducible rfl) | (go_simp; rw [if_neg (Nat.not_lt.2 (by assumption))]))
              (try simp only [Act.put, List.getElem_toArray, List.getElem_cons_succ, List.getElem_cons_zero, List.setIfInBounds_toArray, List.set_cons_zero, List.set_cons_succ])
              refine wpAnyH_take (i := 4) (oi := _) (v := ?_) rfl (by kernel_rfl) (by kernel_rfl) (by kernel_rfl) (fun _ _ _ h => h) (Or.inl ⟨by rfl, ?_⟩) (by assumption) ?_
              rotate_left 1
              · intro w hSw
                have cq : w.cell? ⟨V17.heap.size, kk, none⟩ = some (.string (str xA)) := (hSw.cell (g := V17.heap.size) (vs := #[.string ⟨#[]⟩, .string ⟨#[32]⟩, .string ⟨#[9]⟩, .string ⟨#[10, 35, 120, 10]⟩]) (t := 9) (.head _) kk).trans HrA.out
                (first | (go_simp; done) | (go_simp; with_reducible rfl) | (go_simp; rw [if_neg (Nat.not_lt.2 (by assumption))]))
              (try simp only [Act.put, List.getElem_toArray, List.getElem_cons_succ, List.getElem_cons_zero, List.setIfInBounds_toArray, List.set_cons_zero, List.set_cons_succ])
              refine wpAnyH_take (i := 5) (oi := _) (v := ?_) rfl (by kernel_rfl) (by kernel_rfl) (by kernel_rfl) (fun _ _ _ h => h) (Or.inl ⟨by rfl, ?_⟩) (by assumption) ?_
              rotate_left 1
              · intro w hSw
                (first | (go_simp; done) | (go_simp; with_reducible rfl) | (go_simp; rw [if_neg (Nat.not_lt.2 (by assumption))]))
              (try simp only [Act.put, List.getElem_toArray, List.getElem_cons_succ, List.getElem_cons_zero, List.setIfInBounds_toArray, List.set_cons_zero, List.set_cons_succ])
              refine wpAnyH_take (i := 8) (oi := _) (v := ?_) rfl (by kernel_rfl) (by kernel_rfl) (by kernel_rfl) (fun _ _ _ h => h) (Or.inl ⟨by rfl, ?_⟩) (by assumption) ?_
              rotate_left 1
              · intro w hSw
                (first | (go_simp; done) | (go_simp; with_reducible rfl) | (go_simp; rw [if_neg (Nat.not_lt.2 (by assumption))]))
              (try simp only [Act.put, List.getElem_toArray, List.getElem_cons_succ, List.getElem_cons_zero, List.setIfInBounds_toArray, List.set_cons_zero, List.set_cons_succ])
              refine wpAnyH_ready (rs := [9, 15]) (by kernel_rfl) (by simp) ?_
              refine AllReadyH.cons (o := _) rfl (fun K hK => ?_) ?_
              · go_simp
                refine hK.out _ _ (hh18.step (al1 _ _)) (fun hh19a => ?_)
                clear hK K
                (try simp only [Act.put, List.getElem_toArray, List.getElem_cons_succ, List.getElem_cons_zero, List.setIfInBounds_toArray, List.set_cons_zero, List.set_cons_succ])
                have hh19 := hh19a.add (heap_alloc_new V18 (.cells #[.string ⟨#[]⟩, .string ⟨#[32, 35, 32, 121]⟩, .string ⟨#[9, 32]⟩, .string ⟨#[35, 122]⟩] 9))
                clear hh19a
                generalize V18.alloc (.cells #[.string ⟨#[]⟩, .string ⟨#[32, 35, 32, 121]⟩, .string ⟨#[9, 32]⟩, .string ⟨#[35, 122]⟩] 9) = V19 at hh19 ⊢
                refine wpAnyH_sub (R := SB w9 [(V18.heap.size, .cells #[.string ⟨#[]⟩, .string ⟨#[32, 35, 32, 121]⟩, .string ⟨#[9, 32]⟩, .string ⟨#[35, 122]⟩] 9 (0, 0)), (V17.heap.size, .cells #[.string ⟨#[]⟩, .string ⟨#[32]⟩, .string ⟨#[9]⟩, .string ⟨#[10, 35, 120, 10]⟩] 9 (0, 0))]) (fun _ h => h.sub) _ _ _ _ ?_
                refine wpAnyH_take (i := 11) (oi := _) (v := ?_) rfl (by kernel_rfl) (by kernel_rfl) (by kernel_rfl) (fun _ _ _ h => h) (Or.inl ⟨by rfl, ?_⟩) (by assumption) ?_
                rotate_left 1
                · intro w hSw
                  (first | (go_simp; done) | (go_simp; with_reducible rfl) | (go_simp; rw [if_neg (Nat.not_lt.2 (by assumption))]))
                (try simp only [Act.put, List.getElem_toArray, List.getElem_cons_succ, List.getElem_cons_zero, List.setIfInBounds_toArray, List.set_cons_zero, List.set_cons_succ])
                refine wpAnyH_take (i := 12) (oi := _) (v := ?_) rfl (by kernel_rfl) (by kernel_rfl) (by kernel_rfl) (fun _ _ _ h => h) (Or.inl ⟨by rfl, ?_⟩) (by assumption) ?_
                rotate_left 1
                · intro w hSw
                  have cq : w.cell? ⟨V18.heap.size, kk, none⟩ = some (.string (str xB)) := (hSw.cell (g := V18.heap.size) (vs := #[.string ⟨#[]⟩, .string ⟨#[32, 35, 32, 121]⟩, .string ⟨#[9, 32]⟩, .string ⟨#[35, 122]⟩]) (t := 9) (.head _) kk).trans HrB.out
                  (first | (go_simp; done) | (go_simp; with_reducible rfl) | (go_simp; rw [if_neg (Nat.not_lt.2 (by assumption))]))
                (try simp only [Act.put, List.getElem_toArray, List.getElem_cons_succ, List.getElem_cons_zero, List.setIfInBounds_toArray, List.set_cons_zero, List.set_cons_succ])
                refine wpAnyH_take (i := 13) (oi := _) (v := ?_) rfl (by kernel_rfl) (by kernel_rfl) (by kernel_rfl) (fun _ _ _ h => h) (Or.inl ⟨by rfl, ?_⟩) (by assumption) ?_
                rotate_left 1
                · intro w hSw
                  (first | (go_simp; done) | (go_simp; with_reducible rfl) | (go_simp; rw [if_neg (Nat.not_lt.2 (by assumption))]))
                (try simp only [Act.put, List.getElem_toArray, List.getElem_cons_succ, List.getElem_cons_zero, List.setIfInBounds_toArray, List.set_cons_zero, List.set_cons_succ])
                refine wpAnyH_take (i := 14) (oi := _) (v := ?_) rfl (by kernel_rfl) (by kernel_rfl) (by kernel_rfl) (fun _ _ _ h => h) (Or.inl ⟨by rfl, ?_⟩) (by assumption) ?_
                rotate_left 1
                · intro w hSw
                  (first | (go_simp; done) | (go_simp; with_reducible rfl) | (go_simp; rw [if_neg (Nat.not_lt.2 (by assumption))]))
                (try simp only [Act.put, List.getElem_toArray, List.getElem_cons_succ, List.getElem_cons_zero, List.setIfInBounds_toArray, List.set_cons_zero, List.set_cons_succ])
                refine wpAnyH_ready (rs := [15]) (by kernel_rfl) (by simp) ?_
                refine AllReadyH.cons (o := _) rfl (fun K hK => ?_) ?_
                · go_simp
                  refine hK.out _ _ (hh19.step (al1 _ _)) (fun hh20a => ?_)
                  clear hK K
                  (try simp only [Act.put, List.getElem_toArray, List.getElem_cons_succ, List.getElem_cons_zero, List.setIfInBounds_toArray, List.set_cons_zero, List.set_cons_succ])
                  have hh20 := hh20a.add (heap_alloc_new V19 (.cells #[.string ⟨#[]⟩, .string ⟨#[10]⟩, .string ⟨#[32, 10]⟩, .string ⟨#[35, 10]⟩] 9))
                  clear hh20a
                  generalize V19.alloc (.cells #[.string ⟨#[]⟩, .string ⟨#[10]⟩, .string ⟨#[32, 10]⟩, .string ⟨#[35, 10]⟩] 9) = V20 at hh20 ⊢
                  refine wpAnyH_sub (R := SB w9 [(V19.heap.size, .cells #[.string ⟨#[]⟩, .string ⟨#[10]⟩, .string ⟨#[32, 10]⟩, .string ⟨#[35, 10]⟩] 9 (0, 0)), (V18.heap.size, .cells #[.string ⟨#[]⟩, .string ⟨#[32, 35, 32, 121]⟩, .string ⟨#[9, 32]⟩, .string ⟨#[35, 122]⟩] 9 (0, 0)), (V17.heap.size, .cells #[.string ⟨#[]⟩, .string ⟨#[32]⟩, .string ⟨#[9]⟩, .string ⟨#[10, 35, 120, 10]⟩] 9 (0, 0))]) (fun _ h => h.sub) _ _ _ _ ?_
                  refine wpAnyH_take (i := 17) (oi := _) (v := ?_) rfl (by kernel_rfl) (by kernel_rfl) (by kernel_rfl) (fun _ _ _ h => h) (Or.inl ⟨by rfl, ?_⟩) (by assumption) ?_
                  rotate_left 1
                  · intro w hSw
                    (first | (go_simp; done) | (go_simp; with_reducible rfl) | (go_simp; rw [if_neg (Nat.not_lt.2 (by assumption))]))
                  (try simp only [Act.put, List.getElem_toArray, List.getElem_cons_succ, List.getElem_cons_zero, List.setIfInBounds_toArray, List.set_cons_zero, List.set_cons_succ])
                  refine wpAnyH_take (i := 18) (oi := _) (v := ?_) rfl (by kernel_rfl) (by kernel_rfl) (by kernel_rfl) (fun _ _ _ h => h) (Or.inl ⟨by rfl, ?_⟩) (by assumption) ?_
                  rotate_left 1
                  · intro w hSw
                    have cq : w.cell? ⟨V19.heap.size, kk, none⟩ = some (.string (str xC)) := (hSw.cell (g := V19.heap.size) (vs := #[.string ⟨#[]⟩, .string ⟨#[10]⟩, .string ⟨#[32, 10]⟩, .string ⟨#[35, 10]⟩]) (t := 9) (.head _) kk).trans HrC.out
                    (first | (go_simp; done) | (go_simp; with_reducible rfl) | (go_simp; rw [if_neg (Nat.not_lt.2 (by assumption))]))
                  (try simp only [Act.put, List.getElem_toArray, List.getElem_cons_succ, List.getElem_cons_zero, List.setIfInBounds_toArray, List.set_cons_zero, List.set_cons_succ])
                  refine wpAnyH_take (i := 19) (oi := _) (v := ?_) rfl (by kernel_rfl) (by kernel_rfl) (by kernel_rfl) (fun _ _ _ h => h) (Or.inl ⟨by rfl, ?_⟩) (by assumption) ?_
                  rotate_left 1
                  · intro w hSw
                    (first | (go_simp; done) | (go_simp; with_reducible rfl) | (go_simp; rw [if_neg (Nat.not_lt.2 (by assumption))]))
                  (try simp only [Act.put, List.getElem_toArray, List.getElem_cons_succ, List.getElem_cons_zero, List.setIfInBounds_toArray, List.set_cons_zero, List.set_cons_succ])
                  refine wpAnyH_take (i := 20) (oi := _) (v := ?_) rfl (by kernel_rfl) (by kernel_rfl) (by kernel_rfl) (fun _ _ _ h => h) (Or.inl ⟨by rfl, ?_⟩) (by assumption) ?_
                  rotate_left 1
                  · intro w hSw
                    (first | (go_simp; done) | (go_simp; with_reducible rfl) | (go_simp; rw [if_neg (Nat.not_lt.2 (by assumption))]))
                  (try simp only [Act.put, List.getElem_toArray, List.getElem_cons_succ, List.getElem_cons_zero, List.setIfInBounds_toArray, List.set_cons_zero, List.set_cons_succ])
                  refine wpAnyH_done (by kernel_rfl) ?_ _
                  go_wp2
                  go_roundw
                  case rel => exact HFI.out _ hh20.bel
                  case measure => simp [intOf]; omega
                exact AllReadyH.nil
              refine AllReadyH.cons (o := _) rfl (fun K hK => ?_) ?_
              · go_simp
                refine hK.out _ _ (hh18.step (al1 _ _)) (fun hh21a => ?_)
                clear hK K
                (try simp only [Act.put, List.getElem_toArray, List.getElem_cons_succ, List.getElem_cons_zero, List.setIfInBounds_toArray, List.set_cons_zero, List.set_cons_succ])
                have hh21 := hh21a.add (heap_alloc_new V18 (.cells #[.string ⟨#[]⟩, .string ⟨#[10]⟩, .string ⟨#[32, 10]⟩, .string ⟨#[35, 10]⟩] 9))
                clear hh21a
                generalize V18.alloc (.cells #[.string ⟨#[]⟩, .string ⟨#[10]⟩, .string ⟨#[32, 10]⟩, .string ⟨#[35, 10]⟩] 9) = V21 at hh21 ⊢
                refine wpAnyH_sub (R := SB w9 [(V18.heap.size, .cells #[.string ⟨#[]⟩, .string ⟨#[10]⟩, .string ⟨#[32, 10]⟩, .string ⟨#[35, 10]⟩] 9 (0, 0)), (V17.heap.size, .cells #[.string ⟨#[]⟩, .string ⟨#[32]⟩, .string ⟨#[9]⟩, .string ⟨#[10, 35, 120, 10]⟩] 9 (0, 0))]) (fun _ h => h.sub) _ _ _ _ ?_
                refine wpAnyH_take (i := 17) (oi := _) (v := ?_) rfl (by kernel_rfl) (by kernel_rfl) (by kernel_rfl) (fun _ _ _ h => h) (Or.inl ⟨by rfl, ?_⟩) (by assumption) ?_
                rotate_left 1
                · intro w hSw
                  (first | (go_simp; done) | (go_simp; with_reducible rfl) | (go_simp; rw [if_neg (Nat.not_lt.2 (by assumption))]))
                (try simp only [Act.put, List.getElem_toArray, List.getElem_cons_succ, List.getElem_cons_zero, List.setIfInBounds_toArray, List.set_cons_zero, List.set_cons_succ])
                refine wpAnyH_take (i := 18) (oi := _) (v := ?_) rfl (by kernel_rfl) (by kernel_rfl) (by kernel_rfl) (fun _ _ _ h => h) (Or.inl ⟨by rfl, ?_⟩) (by assumption) ?_
                rotate_left 1
                · intro w hSw
                  have cq : w.cell? ⟨V18.heap.size, kk, none⟩ = some (.string (str xC)) := (hSw.cell (g := V18.heap.size) (vs := #[.string ⟨#[]⟩, .string ⟨#[10]⟩, .string ⟨#[32, 10]⟩, .string ⟨#[35, 10]⟩]) (t := 9) (.head _) kk).trans HrC.out
                  (first | (go_simp; done) | (go_simp; with_reducible rfl) | (go_simp; rw [if_neg (Nat.not_lt.2 (by assumption))]))
                (try simp only [Act.put, List.getElem_toArray, List.getElem_cons_succ, List.getElem_cons_zero, List.setIfInBounds_toArray, List.set_cons_zero, List.set_cons_succ])
                refine wpAnyH_ready (rs := [9]) (by kernel_rfl) (by simp) ?_
                refine AllReadyH.cons (o := _) rfl (fun K hK => ?_) ?_
                · go_simp
                  refine hK.out _ _ (hh21.step (al1 _ _)) (fun hh22a => ?_)
                  clear hK K
                  (try simp only [Act.put, List.getElem_toArray, List.getElem_cons_succ, List.getElem_cons_zero, List.setIfInBounds_toArray, List.set_cons_zero, List.set_cons_succ])
                  have hh22 := hh22a.add (heap_alloc_new V21 (.cells #[.string ⟨#[]⟩, .string ⟨#[32, 35, 32, 121]⟩, .string ⟨#[9, 32]⟩, .string ⟨#[35, 122]⟩] 9))
                  clear hh22a
                  generalize V21.alloc (.cells #[.string ⟨#[]⟩, .string ⟨#[32, 35, 32, 121]⟩, .string ⟨#[9, 32]⟩, .string ⟨#[35, 122]⟩] 9) = V22 at hh22 ⊢
                  refine wpAnyH_sub (R := SB w9 [(V21.heap.size, .cells #[.string ⟨#[]⟩, .string ⟨#[32, 35, 32, 121]⟩, .string ⟨#[9, 32]⟩, .string ⟨#[35, 122]⟩] 9 (0, 0)), (V18.heap.size, .cells #[.string ⟨#[]⟩, .string ⟨#[10]⟩, .string ⟨#[32, 10]⟩, .string ⟨#[35, 10]⟩] 9 (0, 0)), (V17.heap.size, .cells #[.string ⟨#[]⟩, .string ⟨#[32]⟩, .string ⟨#[9]⟩, .string ⟨#[10, 35, 120, 10]⟩] 9 (0, 0))]) (fun _ h => h.sub) _ _ _ _ ?_
                  refine wpAnyH_take (i := 11) (oi := _) (v := ?_) rfl (by kernel_rfl) (by kernel_rfl) (by kernel_rfl) (fun _ _ _ h => h) (Or.inl ⟨by rfl, ?_⟩) (by assumption) ?_
                  rotate_left 1
                  · intro w hSw
                    (first | (go_simp; done) | (go_simp; with_reducible rfl) | (go_simp; rw [if_neg (Nat.not_lt.2 (by assumption))]))
                  (try simp only [Act.put, List.getElem_toArray, List.getElem_cons_succ, List.getElem_cons_zero, List.setIfInBounds_toArray, List.set_cons_zero, List.set_cons_succ])
                  refine wpAnyH_take (i := 12) (oi := _) (v := ?_) rfl (by kernel_rfl) (by kernel_rfl) (by kernel_rfl) (fun _ _ _ h => h) (Or.inl ⟨by rfl, ?_⟩) (by assumption) ?_
                  rotate_left 1
                  · intro w hSw
                    have cq : w.cell? ⟨V21.heap.size, kk, none⟩ = some (.string (str xB)) := (hSw.cell (g := V21.heap.size) (vs := #[.string ⟨#[]⟩, .string ⟨#[32, 35, 32, 121]⟩, .string ⟨#[9, 32]⟩, .string ⟨#[35, 122]⟩]) (t := 9) (.head _) kk).trans HrB.out
                    (first | (go_simp; done) | (go_simp; with_reducible rfl) | (go_simp; rw [if_neg (Nat.not_lt.2 (by assumption))]))
                  (try simp only [Act.put, List.getElem_toArray, List.getElem_cons_succ, List.getElem_cons_zero, List.setIfInBounds_toArray, List.set_cons_zero, List.set_cons_succ])
                  refine wpAnyH_take (i := 13) (oi := _) (v := ?_) rfl (by kernel_rfl) (by kernel_rfl) (by kernel_rfl) (fun _ _ _ h => h) (Or.inl ⟨by rfl, ?_⟩) (by assumption) ?_
                  rotate_left 1
                  · intro w hSw
                    (first | (go_simp; done) | (go_simp; with_reducible rfl) | (go_simp; rw [if_neg (Nat.not_lt.2 (by assumption))]))
                  (try simp only [Act.put, List.getElem_toArray, List.getElem_cons_succ, List.getElem_cons_zero, List.setIfInBounds_toArray, List.set_cons_zero, List.set_cons_succ])
                  refine wpAnyH_take (i := 14) (oi := _) (v := ?_) rfl (by kernel_rfl) (by kernel_rfl) (by kernel_rfl) (fun _ _ _ h => h) (Or.inl ⟨by rfl, ?_⟩) (by assumption) ?_
                  rotate_left 1
                  · intro w hSw
                    (first | (go_simp; done) | (go_simp; with_reducible rfl) | (go_simp; rw [if_neg (Nat.not_lt.2 (by assumption))]))
                  (try simp only [Act.put, List.getElem_toArray, List.getElem_cons_succ, List.getElem_cons_zero, List.setIfInBounds_toArray, List.set_cons_zero, List.set_cons_succ])
                  refine wpAnyH_take (i := 19) (oi := _) (v := ?_) rfl (by kernel_rfl) (by kernel_rfl) (by kernel_rfl) (fun _ _ _ h => h) (Or.inl ⟨by rfl, ?_⟩) (by assumption) ?_
                  rotate_left 1
                  · intro w hSw
                    (first | (go_simp; done) | (go_simp; with_reducible rfl) | (go_simp; rw [if_neg (Nat.not_lt.2 (by assumption))]))
                  (try simp only [Act.put, List.getElem_toArray, List.getElem_cons_succ, List.getElem_cons_zero, List.setIfInBounds_toArray, List.set_cons_zero, List.set_cons_succ])
                  refine wpAnyH_take (i := 20) (oi := _) (v := ?_) rfl (by kernel_rfl) (by kernel_rfl) (by kernel_rfl) (fun _ _ _ h => h) (Or.inl ⟨by rfl, ?_⟩) (by assumption) ?_
                  rotate_left 1
                  · intro w hSw
                    (first | (go_simp; done) | (go_simp; with_reducible rfl) | (go_simp; rw [if_neg (Nat.not_lt.2 (by assumption))]))
                  (try simp only [Act.put, List.getElem_toArray, List.getElem_cons_succ, List.getElem_cons_zero, List.setIfInBounds_toArray, List.set_cons_zero, List.set_cons_succ])
                  refine wpAnyH_done (by kernel_rfl) ?_ _
                  go_wp2
                  go_roundw
                  case rel => exact HFI.out _ hh22.bel
                  case measure => simp [intOf]; omega
                exact AllReadyH.nil
              exact AllReadyH.nil
            refine AllReadyH.cons (o := _) rfl (fun K hK => ?_) ?_
            · go_simp
              refine hK.out _ _ (hh17.step (al1 _ _)) (fun hh23a => ?_)
              clear hK K
              (try simp only [Act.put, List.getElem_toArray, List.getElem_cons_succ, List.getElem_cons_zero, List.setIfInBounds_toArray, List.set_cons_zero, List.set_cons_succ])
              have hh23 := hh23a.add (heap_alloc_new V17 (.cells #[.string ⟨#[]⟩, .string ⟨#[32, 35, 32, 121]⟩, .string ⟨#[9, 32]⟩, .string ⟨#[35, 122]⟩] 9))
              clear hh23a
              generalize V17.alloc (.cells #[.string ⟨#[]⟩, .string ⟨#[32, 35, 32, 121]⟩, .string ⟨#[9, 32]⟩, .string ⟨#[35, 122]⟩] 9) = V23 at hh23 ⊢
              refine wpAnyH_sub (R := SB w9 [(V17.heap.size, .cells #[.string ⟨#[]⟩, .string ⟨#[32, 35, 32, 121]⟩, .string ⟨#[9, 32]⟩, .string ⟨#[35, 122]⟩] 9 (0, 0))]) (fun _ h => h.sub) _ _ _ _ ?_
              refine wpAnyH_take (i := 11) (oi := _) (v := ?_) rfl (by kernel_rfl) (by kernel_rfl) (by kernel_rfl) (fun _ _ _ h => h) (Or.inl ⟨by rfl, ?_⟩) (by assumption) ?_
              rotate_left 1
              · intro w hSw
                (first | (go_simp; done) | (go_simp; with_reducible rfl) | (go_simp; rw [if_neg (Nat.not_lt.2 (by assumption))]))
              (try simp only [Act.put, List.getElem_toArray, List.getElem_cons_succ, List.getElem_cons_zero, List.setIfInBounds_toArray, List.set_cons_zero, List.set_cons_succ])
              refine wpAnyH_take (i := 12) (oi := _) (v := ?_) rfl (by kernel_rfl) (by kernel_rfl) (by kernel_rfl) (fun _ _ _ h => h) (Or.inl ⟨by rfl, ?_⟩) (by assumption) ?_
              rotate_left 1
              · intro w hSw
                have cq : w.cell? ⟨V17.heap.size, kk, none⟩ = some (.string (str xB)) := (hSw.cell (g := V17.heap.size) (vs := #[.string ⟨#[]⟩, .string ⟨#[32, 35, 32, 121]⟩, .string ⟨#[9, 32]⟩, .string ⟨#[35, 122]⟩]) (t := 9) (.head _) kk).trans HrB.out
                (first | (go_simp; done) | (go_simp; with_reducible rfl) | (go_simp; rw [if_neg (Nat.not_lt.2 (by assumption))]))
              (try simp only [Act.put, List.getElem_toArray, List.getElem_cons_succ, List.getElem_cons_zero, List.setIfInBounds_toArray, List.set_cons_zero, List.set_cons_succ])
              refine wpAnyH_ready (rs := [1, 15]) (by kernel_rfl) (by simp) ?_
              refine AllReadyH.cons (o := _) rfl (fun K hK => ?_) ?_
              · go_simp
                refine hK.out _ _ (hh23.step (al1 _ _)) (fun hh24a => ?_)
                clear hK K
                (try simp only [Act.put, List.getElem_toArray, List.getElem_cons_succ, List.getElem_cons_zero, List.setIfInBounds_toArray, List.set_cons_zero, List.set_cons_succ])
                have hh24 := hh24a.add (heap_alloc_new V23 (.cells #[.string ⟨#[]⟩, .string ⟨#[32]⟩, .string ⟨#[9]⟩, .string ⟨#[10, 35, 120, 10]⟩] 9))
                clear hh24a
                generalize V23.alloc (.cells #[.string ⟨#[]⟩, .string ⟨#[32]⟩, .string ⟨#[9]⟩, .string ⟨#[10, 35, 120, 10]⟩] 9) = V24 at hh24 ⊢
                refine wpAnyH_sub (R := SB w9 [(V23.heap.size, .cells #[.string ⟨#[]⟩, .string ⟨#[32]⟩, .string ⟨#[9]⟩, .string ⟨#[10, 35, 120, 10]⟩] 9 (0, 0)), (V17.heap.size, .cells #[.string ⟨#[]⟩, .string ⟨#[32, 35, 32, 121]⟩, .string ⟨#[9, 32]⟩, .string ⟨#[35, 122]⟩] 9 (0, 0))]) (fun _ h => h.sub) _ _ _ _ ?_
                refine wpAnyH_take (i := 3) (oi := _) (v := ?_) rfl (by kernel_rfl) (by kernel_rfl) (by kernel_rfl) (fun _ _ _ h => h) (Or.inl ⟨by rfl, ?_⟩) (by assumption) ?_
                rotate_left 1
                · intro w hSw
                  (first | (go_simp; done) | (go_simp; with_reducible rfl) | (go_simp; rw [if_neg (Nat.not_lt.2 (by assumption))]))
                (try simp only [Act.put, List.getElem_toArray, List.getElem_cons_succ, List.getElem_cons_zero, List.setIfInBounds_toArray, List.set_cons_zero, List.set_cons_succ])
                refine wpAnyH_take (i := 4) (oi := _) (v := ?_) rfl (by kernel_rfl) (by kernel_rfl) (by kernel_rfl) (fun _ _ _ h => h) (Or.inl ⟨by rfl, ?_⟩) (by assumption) ?_
                rotate_left 1
                · intro w hSw
                  have cq : w.cell? ⟨V23.heap.size, kk, none⟩ = some (.string (str xA)) := (hSw.cell (g := V23.heap.size) (vs := #[.string ⟨#[]⟩, .string ⟨#[32]⟩, .string ⟨#[9]⟩, .string ⟨#[10, 35, 120, 10]⟩]) (t := 9) (.head _) kk).trans HrA.out
                  (first | (go_simp; done) | (go_simp; with_reducible rfl) | (go_simp; rw [if_neg (Nat.not_lt.2 (by assumption))]))
                (try simp only [Act.put, List.getElem_toArray, List.getElem_cons_succ, List.getElem_cons_zero, List.setIfInBounds_toArray, List.set_cons_zero, List.set_cons_succ])
                refine wpAnyH_take (i := 5) (oi := _) (v := ?_) rfl (by kernel_rfl) (by kernel_rfl) (by kernel_rfl) (fun _ _ _ h => h) (Or.inl ⟨by rfl, ?_⟩) (by assumption) ?_
                rotate_left 1
                · intro w hSw
                  (first | (go_simp; done) | (go_simp; with_reducible rfl) | (go_simp; rw [if_neg (Nat.not_lt.2 (by assumption))]))
                (try simp only [Act.put, List.getElem_toArray, List.getElem_cons_succ, List.getElem_cons_zero, List.setIfInBounds_toArray, List.set_cons_zero, List.set_cons_succ])
                refine wpAnyH_take (i := 8) (oi := _) (v := ?_) rfl (by kernel_rfl) (by kernel_rfl) (by kernel_rfl) (fun _ _ _ h => h) (Or.inl ⟨by rfl, ?_⟩) (by assumption) ?_
                rotate_left 1
                · intro w hSw
                  (first | (go_simp; done) | (go_simp; with_reducible rfl) | (go_simp; rw [if_neg (Nat.not_lt.2 (by assumption))]))
                (try simp only [Act.put, List.getElem_toArray, List.getElem_cons_succ, List.getElem_cons_zero, List.setIfInBounds_toArray, List.set_cons_zero, List.set_cons_succ])
                refine wpAnyH_take (i := 13) (oi := _) (v := ?_) rfl (by kernel_rfl) (by kernel_rfl) (by kernel_rfl) (fun _ _ _ h => h) (Or.inl ⟨by rfl, ?_⟩) (by assumption) ?_
                rotate_left 1
                · intro w hSw
                  (first | (go_simp; done) | (go_simp; with_reducible rfl) | (go_simp; rw [if_neg (Nat.not_lt.2 (by assumption))]))
                (try simp only [Act.put, List.getElem_toArray, List.getElem_cons_succ, List.getElem_cons_zero, List.setIfInBounds_toArray, List.set_cons_zero, List.set_cons_succ])
                refine wpAnyH_take (i := 14) (oi := _) (v := ?_) rfl (by kernel_rfl) (by kernel_rfl) (by kernel_rfl) (fun _ _ _ h => h) (Or.inl ⟨by rfl, ?_⟩) (by assumption) ?_
                rotate_left 1
                · intro w hSw
                  (first | (go_simp; done) | (go_simp; with_reducible rfl) | (go_simp; rw [if_neg (Nat.not_lt.2 (by assumption))]))
                (try simp only [Act.put, List.getElem_toArray, List.getElem_cons_succ, List.getElem_cons_zero, List.setIfInBounds_toArray, List.set_cons_zero, List.set_cons_succ])
                refine wpAnyH_ready (rs := [15]) (by kernel_rfl) (by simp) ?_
                refine AllReadyH.cons (o := _) rfl (fun K hK => ?_) ?_
                · go_simp
                  refine hK.out _ _ (hh24.step (al1 _ _)) (fun hh25a => ?_)
                  clear hK K
                  (try simp only [Act.put, List.getElem_toArray, List.getElem_cons_succ, List.getElem_cons_zero, List.setIfInBounds_toArray, List.set_cons_zero, List.set_cons_succ])
                  have hh25 := hh25a.add (heap_alloc_new V24 (.cells #[.string ⟨#[]⟩, .string ⟨#[10]⟩, .string ⟨#[32, 10]⟩, .string ⟨#[35, 10]⟩] 9))
                  clear hh25a
                  generalize V24.alloc (.cells #[.string ⟨#[]⟩, .string ⟨#[10]⟩, .string ⟨#[32, 10]⟩, .string ⟨#[35, 10]⟩] 9) = V25 at hh25 ⊢
                  refine wpAnyH_sub (R := SB w9 [(V24.heap.size, .cells #[.string ⟨#[]⟩, .string ⟨#[10]⟩, .string ⟨#[32, 10]⟩, .string ⟨#[35, 10]⟩] 9 (0, 0)), (V23.heap.size, .cells #[.string ⟨#[]⟩, .string ⟨#[32]⟩, .string ⟨#[9]⟩, .string ⟨#[10, 35, 120, 10]⟩] 9 (0, 0)), (V17.heap.size, .cells #[.string ⟨#[]⟩, .string ⟨#[32, 35, 32, 121]⟩, .string ⟨#[9, 32]⟩, .string ⟨#[35, 122]⟩] 9 (0, 0))]) (fun _ h => h.sub) _ _ _ _ ?_
                  refine wpAnyH_take (i := 17) (oi := _) (v := ?_) rfl (by kernel_rfl) (by kernel_rfl) (by kernel_rfl) (fun _ _ _ h => h) (Or.inl ⟨by rfl, ?_⟩) (by assumption) ?_
                  rotate_left 1
                  · intro w hSw
                    (first | (go_simp; done) | (go_simp; with_reducible rfl) | (go_simp; rw [if_neg (Nat.not_lt.2 (by assumption))]))
                  (try simp only [Act.put, List.getElem_toArray, List.getElem_cons_succ, List.getElem_cons_zero, List.setIfInBounds_toArray, List.set_cons_zero, List.set_cons_succ])
                  refine wpAnyH_take (i := 18) (oi := _) (v := ?_) rfl (by kernel_rfl) (by kernel_rfl) (by kernel_rfl) (fun _ _ _ h => h) (Or.inl ⟨by rfl, ?_⟩) (by assumption) ?_
                  rotate_left 1
                  · intro w hSw
                    have cq : w.cell? ⟨V24.heap.size, kk, none⟩ = some (.string (str xC)) := (hSw.cell (g := V24.heap.size) (vs := #[.string ⟨#[]⟩, .string ⟨#[10]⟩, .string ⟨#[32, 10]⟩, .string ⟨#[35, 10]⟩]) (t := 9) (.head _) kk).trans HrC.out
                    (first | (go_simp; done) | (go_simp; with_reducible rfl) | (go_simp; rw [if_neg (Nat.not_lt.2 (by assumption))]))
                  (try simp only [Act.put, List.getElem_toArray, List.getElem_cons_succ, List.getElem_cons_zero, List.setIfInBounds_toArray, List.set_cons_zero, List.set_cons_succ])
                  refine wpAnyH_take (i := 19) (oi := _) (v := ?_) rfl (by kernel_rfl) (by kernel_rfl) (by kernel_rfl) (fun _ _ _ h => h) (Or.inl ⟨by rfl, ?_⟩) (by assumption) ?_
                  rotate_left 1
                  · intro w hSw
                    (first | (go_simp; done) | (go_simp; with_reducible rfl) | (go_simp; rw [if_neg (Nat.not_lt.2 (by assumption))]))
                  (try simp only [Act.put, List.getElem_toArray, List.getElem_cons_succ, List.getElem_cons_zero, List.setIfInBounds_toArray, List.set_cons_zero, List.set_cons_succ])
                  refine wpAnyH_take (i := 20) (oi := _) (v := ?_) rfl (by kernel_rfl) (by kernel_rfl) (by kernel_rfl) (fun _ _ _ h => h) (Or.inl ⟨by rfl, ?_⟩) (by assumption) ?_
                  rotate_left 1
                  · intro w hSw
                    (first | (go_simp; done) | (go_simp; with_reducible rfl) | (go_simp; rw [if_neg (Nat.not_lt.2 (by assumption))]))
                  (try simp only [Act.put, List.getElem_toArray, List.getElem_cons_succ, List.getElem_cons_zero, List.setIfInBounds_toArray, List.set_cons_zero, List.set_cons_succ])
                  refine wpAnyH_done (by kernel_rfl) ?_ _
                  go_wp2
                  go_roundw
                  case rel => exact HFI.out _ hh25.bel
                  case measure => simp [intOf]; omega
                exact AllReadyH.nil
              refine AllReadyH.cons (o := _) rfl (fun K hK => ?_) ?_
              · go_simp
                refine hK.out _ _ (hh23.step (al1 _ _)) (fun hh26a => ?_)
                clear hK K
                (try simp only [Act.put, List.getElem_toArray, List.getElem_cons_succ, List.getElem_cons_zero, List.setIfInBounds_toArray, List.set_cons_zero, List.set_cons_succ])
                have hh26 := hh26a.add (heap_alloc_new V23 (.cells #[.string ⟨#[]⟩, .string ⟨#[10]⟩, .string ⟨#[32, 10]⟩, .string ⟨#[35, 10]⟩] 9))
                clear hh26a
                generalize V23.alloc (.cells #[.string ⟨#[]⟩, .string ⟨#[10]⟩, .string ⟨#[32, 10]⟩, .string ⟨#[35, 10]⟩] 9) = V26 at hh26 ⊢
                refine wpAnyH_sub (R := SB w9 [(V23.heap.size, .cells #[.string ⟨#[]⟩, .string ⟨#[10]⟩, .string ⟨#[32, 10]⟩, .string ⟨#[35, 10]⟩] 9 (0, 0)), (V17.heap.size, .cells #[.string ⟨#[]⟩, .string ⟨#[32, 35, 32, 121]⟩, .string ⟨#[9, 32]⟩, .string ⟨#[35, 122]⟩] 9 (0, 0))]) (fun _ h => h.sub) _ _ _ _ ?_
                refine wpAnyH_take (i := 17) (oi := _) (v := ?_) rfl (by kernel_rfl) (by kernel_rfl) (by kernel_rfl) (fun _ _ _ h => h) (Or.inl ⟨by rfl, ?_⟩) (by assumption) ?_
                rotate_left 1
                · intro w hSw
                  (first | (go_simp; done) | (go_simp; with_reducible rfl) | (go_simp; rw [if_neg (Nat.not_lt.2 (by assumption))]))
                (try simp only [Act.put, List.getElem_toArray, List.getElem_cons_succ, List.getElem_cons_zero, List.setIfInBounds_toArray, List.set_cons_zero, List.set_cons_succ])
                refine wpAnyH_take (i := 18) (oi := _) (v := ?_) rfl (by kernel_rfl) (by kernel_rfl) (by kernel_rfl) (fun _ _ _ h => h) (Or.inl ⟨by rfl, ?_⟩) (by assumption) ?_
                rotate_left 1
                · intro w hSw
                  have cq : w.cell? ⟨V23.heap.size, kk, none⟩ = some (.string (str xC)) := (hSw.cell (g := V23.heap.size) (vs := #[.string ⟨#[]⟩, .string ⟨#[10]⟩, .string ⟨#[32, 10]⟩, .string ⟨#[35, 10]⟩]) (t := 9) (.head _) kk).trans HrC.out
                  (first | (go_simp; done) | (go_simp; with_reducible rfl) | (go_simp; rw [if_neg (Nat.not_lt.2 (by assumption))]))
                (try simp only [Act.put, List.getElem_toArray, List.getElem_cons_succ, List.getElem_cons_zero, List.setIfInBounds_toArray, List.set_cons_zero, List.set_cons_succ])
                refine wpAnyH_ready (rs := [1]) (by kernel_rfl) (by simp) ?_
                refine AllReadyH.cons (o := _) rfl (fun K hK => ?_) ?_
                · go_simp
                  refine hK.out _ _ (hh26.step (al1 _ _)) (fun hh27a => ?_)
                  clear hK K
                  (try simp only [Act.put, List.getElem_toArray, List.getElem_cons_succ, List.getElem_cons_zero, List.setIfInBounds_toArray, List.set_cons_zero, List.set_cons_succ])
                  have hh27 := hh27a.add (heap_alloc_new V26 (.cells #[.string ⟨#[]⟩, .string ⟨#[32]⟩, .string ⟨#[9]⟩, .string ⟨#[10, 35, 120, 10]⟩] 9))
                  clear hh27a
                  generalize V26.alloc (.cells #[.string ⟨#[]⟩, .string ⟨#[32]⟩, .string ⟨#[9]⟩, .string ⟨#[10, 35, 120, 10]⟩] 9) = V27 at hh27 ⊢
                  refine wpAnyH_sub (R := SB w9 [(V26.heap.size, .cells #[.string ⟨#[]⟩, .string ⟨#[32]⟩, .string ⟨#[9]⟩, .string ⟨#[10, 35, 120, 10]⟩] 9 (0, 0)), (V23.heap.size, .cells #[.string ⟨#[]⟩, .string ⟨#[10]⟩, .string ⟨#[32, 10]⟩, .string ⟨#[35, 10]⟩] 9 (0, 0)), (V17.heap.size, .cells #[.string ⟨#[]⟩, .string ⟨#[32, 35, 32, 121]⟩, .string ⟨#[9, 32]⟩, .string ⟨#[35, 122]⟩] 9 (0, 0))]) (fun _ h => h.sub) _ _ _ _ ?_
                  refine wpAnyH_take (i := 3) (oi := _) (v := ?_) rfl (by kernel_rfl) (by kernel_rfl) (by kernel_rfl) (fun _ _ _ h => h) (Or.inl ⟨by rfl, ?_⟩) (by assumption) ?_
                  rotate_left 1
                  · intro w hSw
                    (first | (go_simp; done) | (go_simp; with_reducible rfl) | (go_simp; rw [if_neg (Nat.not_lt.2 (by assumption))]))
                  (try simp only [Act.put, List.getElem_toArray, List.getElem_cons_succ, List.getElem_cons_zero, List.setIfInBounds_toArray, List.set_cons_zero, List.set_cons_succ])
                  refine wpAnyH_take (i := 4) (oi := _) (v := ?_) rfl (by kernel_rfl) (by kernel_rfl) (by kernel_rfl) (fun _ _ _ h => h) (Or.inl ⟨by rfl, ?_⟩) (by assumption) ?_
                  rotate_left 1
                  · intro w hSw
                    have cq : w.cell? ⟨V26.heap.size, kk, none⟩ = some (.string (str xA)) := (hSw.cell (g := V26.heap.size) (vs := #[.string ⟨#[]⟩, .string ⟨#[32]⟩, .string ⟨#[9]⟩, .string ⟨#[10, 35, 120, 10]⟩]) (t := 9) (.head _) kk).trans HrA.out
                    (first | (go_simp; done) | (go_simp; with_reducible rfl) | (go_simp; rw [if_neg (Nat.not_lt.2 (by assumption))]))
                  (try simp only [Act.put, List.getElem_toArray, List.getElem_cons_succ, List.getElem_cons_zero, List.setIfInBounds_toArray, List.set_cons_zero, List.set_cons_succ])
                  refine wpAnyH_take (i := 5) (oi := _) (v := ?_) rfl (by kernel_rfl) (by kernel_rfl) (by kernel_rfl) (fun _ _ _ h => h) (Or.inl ⟨by rfl, ?_⟩) (by assumption) ?_
                  rotate_left 1
                  · intro w hSw
                    (first | (go_simp; done) | (go_simp; with_reducible rfl) | (go_simp; rw [if_neg (Nat.not_lt.2 (by assumption))]))
                  (try simp only [Act.put, List.getElem_toArray, List.getElem_cons_succ, List.getElem_cons_zero, List.setIfInBounds_toArray, List.set_cons_zero, List.set_cons_succ])
                  refine wpAnyH_take (i := 8) (oi := _) (v := ?_) rfl (by kernel_rfl) (by kernel_rfl) (by kernel_rfl) (fun _ _ _ h => h) (Or.inl ⟨by rfl, ?_⟩) (by assumption) ?_
                  rotate_left 1
                  · intro w hSw
                    (first | (go_simp; done) | (go_simp; with_reducible rfl) | (go_simp; rw [if_neg (Nat.not_lt.2 (by assumption))]))
                  (try simp only [Act.put, List.getElem_toArray, List.getElem_cons_succ, List.getElem_cons_zero, List.setIfInBounds_toArray, List.set_cons_zero, List.set_cons_succ])
                  refine wpAnyH_take (i := 13) (oi := _) (v := ?_) rfl (by kernel_rfl) (by kernel_rfl) (by kernel_rfl) (fun _ _ _ h => h) (Or.inl ⟨by rfl, ?_⟩) (by assumption) ?_
                  rotate_left 1
                  · intro w hSw
                    (first | (go_simp; done) | (go_simp; with_reducible rfl) | (go_simp; rw [if_neg (Nat.not_lt.2 (by assumption))]))
                  (try simp only [Act.put, List.getElem_toArray, List.getElem_cons_succ, List.getElem_cons_zero, List.setIfInBounds_toArray, List.set_cons_zero, List.set_cons_succ])
                  refine wpAnyH_take (i := 14) (oi := _) (v := ?_) rfl (by kernel_rfl) (by kernel_rfl) (by kernel_rfl) (fun _ _ _ h => h) (Or.inl ⟨by rfl, ?_⟩) (by assumption) ?_
                  rotate_left 1
                  · intro w hSw
                    (first | (go_simp; done) | (go_simp; with_reducible rfl) | (go_simp; rw [if_neg (Nat.not_lt.2 (by assumption))]))
                  (try simp only [Act.put, List.getElem_toArray, List.getElem_cons_succ, List.getElem_cons_zero, List.setIfInBounds_toArray, List.set_cons_zero, List.set_cons_succ])
                  refine wpAnyH_take (i := 19) (oi := _) (v := ?_) rfl (by kernel_rfl) (by kernel_rfl) (by kernel_rfl) (fun _ _ _ h => h) (Or.inl ⟨by rfl, ?_⟩) (by assumption) ?_
                  rotate_left 1
                  · intro w hSw
                    (first | (go_simp; done) | (go_simp; with_reducible rfl) | (go_simp; rw [if_neg (Nat.not_lt.2 (by assumption))]))
                  (try simp only [Act.put, List.getElem_toArray, List.getElem_cons_succ, List.getElem_cons_zero, List.setIfInBounds_toArray, List.set_cons_zero, List.set_cons_succ])
                  refine wpAnyH_take (i := 20) (oi := _) (v := ?_) rfl (by kernel_rfl) (by kernel_rfl) (by kernel_rfl) (fun _ _ _ h => h) (Or.inl ⟨by rfl, ?_⟩) (by assumption) ?_
                  rotate_left 1
                  · intro w hSw
                    (first | (go_simp; done) | (go_simp; with_reducible rfl) | (go_simp; rw [if_neg (Nat.not_lt.2 (by assumption))]))
                  (try simp only [Act.put, List.getElem_toArray, List.getElem_cons_succ, List.getElem_cons_zero, List.setIfInBounds_toArray, List.set_cons_zero, List.set_cons_succ])
                  refine wpAnyH_done (by kernel_rfl) ?_ _
                  go_wp2
                  go_roundw
                  case rel => exact HFI.out _ hh27.bel
                  case measure => simp [intOf]; omega
                exact AllReadyH.nil
              exact AllReadyH.nil
            refine AllReadyH.cons (o := _) rfl (fun K hK => ?_) ?_
            · go_simp
              refine hK.out _ _ (hh17.step (al1 _ _)) (fun hh28a => ?_)
              clear hK K
              (try simp only [Act.put, List.getElem_toArray, List.getElem_cons_succ, List.getElem_cons_zero, List.setIfInBounds_toArray, List.set_cons_zero, List.set_cons_succ])
              have hh28 := hh28a.add (heap_alloc_new V17 (.cells #[.string ⟨#[]⟩, .string ⟨#[10]⟩, .string ⟨#[32, 10]⟩, .string ⟨#[35, 10]⟩] 9))
              clear hh28a
              generalize V17.alloc (.cells #[.string ⟨#[]⟩, .string ⟨#[10]⟩, .string ⟨#[32, 10]⟩, .string ⟨#[35, 10]⟩] 9) = V28 at hh28 ⊢
              refine wpAnyH_sub (R := SB w9 [(V17.heap.size, .cells #[.string ⟨#[]⟩, .string ⟨#[10]⟩, .string ⟨#[32, 10]⟩, .string ⟨#[35, 10]⟩] 9 (0, 0))]) (fun _ h => h.sub) _ _ _ _ ?_
              refine wpAnyH_take (i := 17) (oi := _) (v := ?_) rfl (by kernel_rfl) (by kernel_rfl) (by kernel_rfl) (fun _ _ _ h => h) (Or.inl ⟨by rfl, ?_⟩) (by assumption) ?_
              rotate_left 1
              · intro w hSw
                (first | (go_simp; done) | (go_simp; with_reducible rfl) | (go_simp; rw [if_neg (Nat.not_lt.2 (by assumption))]))
              (try simp only [Act.put, List.getElem_toArray, List.getElem_cons_succ, List.getElem_cons_zero, List.setIfInBounds_toArray, List.set_cons_zero, List.set_cons_succ])
              refine wpAnyH_take (i := 18) (oi := _) (v := ?_) rfl (by kernel_rfl) (by kernel_rfl) (by kernel_rfl) (fun _ _ _ h => h) (Or.inl ⟨by rfl, ?_⟩) (by assumption) ?_
              rotate_left 1
              · intro w hSw
                have cq : w.cell? ⟨V17.heap.size, kk, none⟩ = some (.string (str xC)) := (hSw.cell (g := V17.heap.size) (vs := #[.string ⟨#[]⟩, .string ⟨#[10]⟩, .string ⟨#[32, 10]⟩, .string ⟨#[35, 10]⟩]) (t := 9) (.head _) kk).trans HrC.out
                (first | (go_simp; done) | (go_simp; with_reducible rfl) | (go_simp; rw [if_neg (Nat.not_lt.2 (by assumption))]))
              (try simp only [Act.put, List.getElem_toArray, List.getElem_cons_succ, List.getElem_cons_zero, List.setIfInBounds_toArray, List.set_cons_zero, List.set_cons_succ])
              refine wpAnyH_ready (rs := [1, 9]) (by kernel_rfl) (by simp) ?_
              refine AllReadyH.cons (o := _) rfl (fun K hK => ?_) ?_
              · go_simp
                refine hK.out _ _ (hh28.step (al1 _ _)) (fun hh29a => ?_)
                clear hK K
                (try simp only [Act.put, List.getElem_toArray, List.getElem_cons_succ, List.getElem_cons_zero, List.setIfInBounds_toArray, List.set_cons_zero, List.set_cons_succ])
                have hh29 := hh29a.add (heap_alloc_new V28 (.cells #[.string ⟨#[]⟩, .string ⟨#[32]⟩, .string ⟨#[9]⟩, .string ⟨#[10, 35, 120, 10]⟩] 9))
                clear hh29a
                generalize V28.alloc (.cells #[.string ⟨#[]⟩, .string ⟨#[32]⟩, .string ⟨#[9]⟩, .string ⟨#[10, 35, 120, 10]⟩] 9) = V29 at hh29 ⊢
                refine wpAnyH_sub (R := SB w9 [(V28.heap.size, .cells #[.string ⟨#[]⟩, .string ⟨#[32]⟩, .string ⟨#[9]⟩, .string ⟨#[10, 35, 120, 10]⟩] 9 (0, 0)), (V17.heap.size, .cells #[.string ⟨#[]⟩, .string ⟨#[10]⟩, .string ⟨#[32, 10]⟩, .string ⟨#[35, 10]⟩] 9 (0, 0))]) (fun _ h => h.sub) _ _ _ _ ?_
                refine wpAnyH_take (i := 3) (oi := _) (v := ?_) rfl (by kernel_rfl) (by kernel_rfl) (by kernel_rfl) (fun _ _ _ h => h) (Or.inl ⟨by rfl, ?_⟩) (by assumption) ?_
                rotate_left 1
                · intro w hSw
                  (first | (go_simp; done) | (go_simp; with_reducible rfl) | (go_simp; rw [if_neg (Nat.not_lt.2 (by assumption))]))
                (try simp only [Act.put, List.getElem_toArray, List.getElem_cons_succ, List.getElem_cons_zero, List.setIfInBounds_toArray, List.set_cons_zero, List.set_cons_succ])
                refine wpAnyH_take (i := 4) (oi := _) (v := ?_) rfl (by kernel_rfl) (by kernel_rfl) (by kernel_rfl) (fun _ _ _ h => h) (Or.inl ⟨by rfl, ?_⟩) (by assumption) ?_
                rotate_left 1
                · intro w hSw
                  have cq : w.cell? ⟨V28.heap.size, kk, none⟩ = some (.string (str xA)) := (hSw.cell (g := V28.heap.size) (vs := #[.string ⟨#[]⟩, .string ⟨#[32]⟩, .string ⟨#[9]⟩, .string ⟨#[10, 35, 120, 10]⟩]) (t := 9) (.head _) kk).trans HrA.out
                  (first | (go_simp; done) | (go_simp; with_reducible rfl) | (go_simp; rw [if_neg (Nat.not_lt.2 (by assumption))]))
                (try simp only [Act.put, List.getElem_toArray, List.getElem_cons_succ, List.getElem_cons_zero, List.setIfInBounds_toArray, List.set_cons_zero, List.set_cons_succ])
                refine wpAnyH_take (i := 5) (oi := _) (v := ?_) rfl (by kernel_rfl) (by kernel_rfl) (by kernel_rfl) (fun _ _ _ h => h) (Or.inl ⟨by rfl, ?_⟩) (by assumption) ?_
                rotate_left 1
                · intro w hSw
                  (first | (go_simp; done) | (go_simp; with_reducible rfl) | (go_simp; rw [if_neg (Nat.not_lt.2 (by assumption))]))
                (try simp only [Act.put, List.getElem_toArray, List.getElem_cons_succ, List.getElem_cons_zero, List.setIfInBounds_toArray, List.set_cons_zero, List.set_cons_succ])
                refine wpAnyH_take (i := 8) (oi := _) (v := ?_) rfl (by kernel_rfl) (by kernel_rfl) (by kernel_rfl) (fun _ _ _ h => h) (Or.inl ⟨by rfl, ?_⟩) (by assumption) ?_
                rotate_left 1
                · intro w hSw
                  (first | (go_simp; done) | (go_simp; with_reducible rfl) | (go_simp; rw [if_neg (Nat.not_lt.2 (by assumption))]))
                (try simp only [Act.put, List.getElem_toArray, List.getElem_cons_succ, List.getElem_cons_zero, List.setIfInBounds_toArray, List.set_cons_zero, List.set_cons_succ])
                refine wpAnyH_ready (rs := [9]) (by kernel_rfl) (by simp) ?_
                refine AllReadyH.cons (o := _) rfl (fun K hK => ?_) ?_
                · go_simp
                  refine hK.out _ _ (hh29.step (al1 _ _)) (fun hh30a => ?_)
                  clear hK K
                  (try simp only [Act.put, List.getElem_toArray, List.getElem_cons_succ, List.getElem_cons_zero, List.setIfInBounds_toArray, List.set_cons_zero, List.set_cons_succ])
                  have hh30 := hh30a.add (heap_alloc_new V29 (.cells #[.string ⟨#[]⟩, .string ⟨#[32, 35, 32, 121]⟩, .string ⟨#[9, 32]⟩, .string ⟨#[35, 122]⟩] 9))
                  clear hh30a
                  generalize V29.alloc (.cells #[.string ⟨#[]⟩, .string ⟨#[32, 35, 32, 121]⟩, .string ⟨#[9, 32]⟩, .string ⟨#[35, 122]⟩] 9) = V30 at hh30 ⊢
                  refine wpAnyH_sub (R := SB w9 [(V29.heap.size, .cells #[.string ⟨#[]⟩, .string ⟨#[32, 35, 32, 121]⟩, .string ⟨#[9, 32]⟩, .string ⟨#[35, 122]⟩] 9 (0, 0)), (V28.heap.size, .cells #[.string ⟨#[]⟩, .string ⟨#[32]⟩, .string ⟨#[9]⟩, .string ⟨#[10, 35, 120, 10]⟩] 9 (0, 0)), (V17.heap.size, .cells #[.string ⟨#[]⟩, .string ⟨#[10]⟩, .string ⟨#[32, 10]⟩, .string ⟨#[35, 10]⟩] 9 (0, 0))]) (fun _ h => h.sub) _ _ _ _ ?_
                  refine wpAnyH_take (i := 11) (oi := _) (v := ?_) rfl (by kernel_rfl) (by kernel_rfl) (by kernel_rfl) (fun _ _ _ h => h) (Or.inl ⟨by rfl, ?_⟩) (by assumption) ?_
                  rotate_left 1
                  · intro w hSw
                    (first | (go_simp; done) | (go_simp; with_reducible rfl) | (go_simp; rw [if_neg (Nat.not_lt.2 (by assumption))]))
                  (try simp only [Act.put, List.getElem_toArray, List.getElem_cons_succ, List.getElem_cons_zero, List.setIfInBounds_toArray, List.set_cons_zero, List.set_cons_succ])
                  refine wpAnyH_take (i := 12) (oi := _) (v := ?_) rfl (by kernel_rfl) (by kernel_rfl) (by kernel_rfl) (fun _ _ _ h => h) (Or.inl ⟨by rfl, ?_⟩) (by assumption) ?_
                  rotate_left 1
                  · intro w hSw
                    have cq : w.cell? ⟨V29.heap.size, kk, none⟩ = some (.string (str xB)) := (hSw.cell (g := V29.heap.size) (vs := #[.string ⟨#[]⟩, .string ⟨#[32, 35, 32, 121]⟩, .string ⟨#[9, 32]⟩, .string ⟨#[35, 122]⟩]) (t := 9) (.head _) kk).trans HrB.out
                    (first | (go_simp; done) | (go_simp; with_reducible rfl) | (go_simp; rw [if_neg (Nat.not_lt.2 (by assumption))]))
                  (try simp only [Act.put, List.getElem_toArray, List.getElem_cons_succ, List.getElem_cons_zero, List.setIfInBounds_toArray, List.set_cons_zero, List.set_cons_succ])
                  refine wpAnyH_take (i := 13) (oi := _) (v := ?_) rfl (by kernel_rfl) (by kernel_rfl) (by kernel_rfl) (fun _ _ _ h => h) (Or.inl ⟨by rfl, ?_⟩) (by assumption) ?_
                  rotate_left 1
                  · intro w hSw
                    (first | (go_simp; done) | (go_simp; with_reducible rfl) | (go_simp; rw [if_neg (Nat.not_lt.2 (by assumption))]))
                  (try simp only [Act.put, List.getElem_toArray, List.getElem_cons_succ, List.getElem_cons_zero, List.setIfInBounds_toArray, List.set_cons_zero, List.set_cons_succ])
                  refine wpAnyH_take (i := 14) (oi := _) (v := ?_) rfl (by kernel_rfl) (by kernel_rfl) (by kernel_rfl) (fun _ _ _ h => h) (Or.inl ⟨by rfl, ?_⟩) (by assumption) ?_
                  rotate_left 1
                  · intro w hSw
                    (first | (go_simp; done) | (go_simp; with_reducible rfl) | (go_simp; rw [if_neg (Nat.not_lt.2 (by assumption))]))
                  (try simp only [Act.put, List.getElem_toArray, List.getElem_cons_succ, List.getElem_cons_zero, List.setIfInBounds_toArray, List.set_cons_zero, List.set_cons_succ])
                  refine wpAnyH_take (i := 19) (oi := _) (v := ?_) rfl (by kernel_rfl) (by kernel_rfl) (by kernel_rfl) (fun _ _ _ h => h) (Or.inl ⟨by rfl, ?_⟩) (by assumption) ?_
                  rotate_left 1
                  · intro w hSw
                    (first | (go_simp; done) | (go_simp; with_reducible rfl) | (go_simp; rw [if_neg (Nat.not_lt.2 (by assumption))]))
                  (try simp only [Act.put, List.getElem_toArray, List.getElem_cons_succ, List.getElem_cons_zero, List.setIfInBounds_toArray, List.set_cons_zero, List.set_cons_succ])
                  refine wpAnyH_take (i := 20) (oi := _) (v := ?_) rfl (by kernel_rfl) (by kernel_rfl) (by kernel_rfl) (fun _ _ _ h => h) (Or.inl ⟨by rfl, ?_⟩) (by assumption) ?_
                  rotate_left 1
                  · intro w hSw
                    (first | (go_simp; done) | (go_simp; with_reducible rfl) | (go_simp; rw [if_neg (Nat.not_lt.2 (by assumption))]))
                  (try simp only [Act.put, List.getElem_toArray, List.getElem_cons_succ, List.getElem_cons_zero, List.setIfInBounds_toArray, List.set_cons_zero, List.set_cons_succ])
                  refine wpAnyH_done (by kernel_rfl) ?_ _
                  go_wp2
                  go_roundw
                  case rel => exact HFI.out _ hh30.bel
                  case measure => simp [intOf]; omega
                exact AllReadyH.nil
              refine AllReadyH.cons (o := _) rfl (fun K hK => ?_) ?_
              · go_simp
                refine hK.out _ _ (hh28.step (al1 _ _)) (fun hh31a => ?_)
                clear hK K
                (try simp only [Act.put, List.getElem_toArray, List.getElem_cons_succ, List.getElem_cons_zero, List.setIfInBounds_toArray, List.set_cons_zero, List.set_cons_succ])
                have hh31 := hh31a.add (heap_alloc_new V28 (.cells #[.string ⟨#[]⟩, .string ⟨#[32, 35, 32, 121]⟩, .string ⟨#[9, 32]⟩, .string ⟨#[35, 122]⟩] 9))
                clear hh31a
                generalize V28.alloc (.cells #[.string ⟨#[]⟩, .string ⟨#[32, 35, 32, 121]⟩, .string ⟨#[9, 32]⟩, .string ⟨#[35, 122]⟩] 9) = V31 at hh31 ⊢
                refine wpAnyH_sub (R := SB w9 [(V28.heap.size, .cells #[.string ⟨#[]⟩, .string ⟨#[32, 35, 32, 121]⟩, .string ⟨#[9, 32]⟩, .string ⟨#[35, 122]⟩] 9 (0, 0)), (V17.heap.size, .cells #[.string ⟨#[]⟩, .string ⟨#[10]⟩, .string ⟨#[32, 10]⟩, .string ⟨#[35, 10]⟩] 9 (0, 0))]) (fun _ h => h.sub) _ _ _ _ ?_
                refine wpAnyH_take (i := 11) (oi := _) (v := ?_) rfl (by kernel_rfl) (by kernel_rfl) (by kernel_rfl) (fun _ _ _ h => h) (Or.inl ⟨by rfl, ?_⟩) (by assumption) ?_
                rotate_left 1
                · intro w hSw
                  (first | (go_simp; done) | (go_simp; with_reducible rfl) | (go_simp; rw [if_neg (Nat.not_lt.2 (by assumption))]))
                (try simp only [Act.put, List.getElem_toArray, List.getElem_cons_succ, List.getElem_cons_zero, List.setIfInBounds_toArray, List.set_cons_zero, List.set_cons_succ])
                refine wpAnyH_take (i := 12) (oi := _) (v := ?_) rfl (by kernel_rfl) (by kernel_rfl) (by kernel_rfl) (fun _ _ _ h => h) (Or.inl ⟨by rfl, ?_⟩) (by assumption) ?_
                rotate_left 1
                · intro w hSw
                  have cq : w.cell? ⟨V28.heap.size, kk, none⟩ = some (.string (str xB)) := (hSw.cell (g := V28.heap.size) (vs := #[.string ⟨#[]⟩, .string ⟨#[32, 35, 32, 121]⟩, .string ⟨#[9, 32]⟩, .string ⟨#[35, 122]⟩]) (t := 9) (.head _) kk).trans HrB.out
                  (first | (go_simp; done) | (go_simp; with_reducible rfl) | (go_simp; rw [if_neg (Nat.not_lt.2 (by assumption))]))
                (try simp only [Act.put, List.getElem_toArray, List.getElem_cons_succ, List.getElem_cons_zero, List.setIfInBounds_toArray, List.set_cons_zero, List.set_cons_succ])
                refine wpAnyH_ready (rs := [1]) (by kernel_rfl) (by simp) ?_
                refine AllReadyH.cons (o := _) rfl (fun K hK => ?_) ?_
                · go_simp
                  refine hK.out _ _ (hh31.step (al1 _ _)) (fun hh32a => ?_)
                  clear hK K
                  (try simp only [Act.put, List.getElem_toArray, List.getElem_cons_succ, List.getElem_cons_zero, List.setIfInBounds_toArray, List.set_cons_zero, List.set_cons_succ])
                  have hh32 := hh32a.add (heap_alloc_new V31 (.cells #[.string ⟨#[]⟩, .string ⟨#[32]⟩, .string ⟨#[9]⟩, .string ⟨#[10, 35, 120, 10]⟩] 9))
                  clear hh32a
                  generalize V31.alloc (.cells #[.string ⟨#[]⟩, .string ⟨#[32]⟩, .string ⟨#[9]⟩, .string ⟨#[10, 35, 120, 10]⟩] 9) = V32 at hh32 ⊢
                  refine wpAnyH_sub (R := SB w9 [(V31.heap.size, .cells #[.string ⟨#[]⟩, .string ⟨#[32]⟩, .string ⟨#[9]⟩, .string ⟨#[10, 35, 120, 10]⟩] 9 (0, 0)), (V28.heap.size, .cells #[.string ⟨#[]⟩, .string ⟨#[32, 35, 32, 121]⟩, .string ⟨#[9, 32]⟩, .string ⟨#[35, 122]⟩] 9 (0, 0)), (V17.heap.size, .cells #[.string ⟨#[]⟩, .string ⟨#[10]⟩, .string ⟨#[32, 10]⟩, .string ⟨#[35, 10]⟩] 9 (0, 0))]) (fun _ h => h.sub) _ _ _ _ ?_
                  refine wpAnyH_take (i := 3) (oi := _) (v := ?_) rfl (by kernel_rfl) (by kernel_rfl) (by kernel_rfl) (fun _ _ _ h => h) (Or.inl ⟨by rfl, ?_⟩) (by assumption) ?_
                  rotate_left 1
                  · intro w hSw
                    (first | (go_simp; done) | (go_simp; with_reducible rfl) | (go_simp; rw [if_neg (Nat.not_lt.2 (by assumption))]))
                  (try simp only [Act.put, List.getElem_toArray, List.getElem_cons_succ, List.getElem_cons_zero, List.setIfInBounds_toArray, List.set_cons_zero, List.set_cons_succ])
                  refine wpAnyH_take (i := 4) (oi := _) (v := ?_) rfl (by kernel_rfl) (by kernel_rfl) (by kernel_rfl) (fun _ _ _ h => h) (Or.inl ⟨by rfl, ?_⟩) (by assumption) ?_
                  rotate_left 1
                  · intro w hSw
                    have cq : w.cell? ⟨V31.heap.size, kk, none⟩ = some (.string (str xA)) := (hSw.cell (g := V31.heap.size) (vs := #[.string ⟨#[]⟩, .string ⟨#[32]⟩, .string ⟨#[9]⟩, .string ⟨#[10, 35, 120, 10]⟩]) (t := 9) (.head _) kk).trans HrA.out
                    (first | (go_simp; done) | (go_simp; with_reducible rfl) | (go_simp; rw [if_neg (Nat.not_lt.2 (by assumption))]))
                  (try simp only [Act.put, List.getElem_toArray, List.getElem_cons_succ, List.getElem_cons_zero, List.setIfInBounds_toArray, List.set_cons_zero, List.set_cons_succ])
                  refine wpAnyH_take (i := 5) (oi := _) (v := ?_) rfl (by kernel_rfl) (by kernel_rfl) (by kernel_rfl) (fun _ _ _ h => h) (Or.inl ⟨by rfl, ?_⟩) (by assumption) ?_
                  rotate_left 1
                  · intro w hSw
                    (first | (go_simp; done) | (go_simp; with_reducible rfl) | (go_simp; rw [if_neg (Nat.not_lt.2 (by assumption))]))
                  (try simp only [Act.put, List.getElem_toArray, List.getElem_cons_succ, List.getElem_cons_zero, List.setIfInBounds_toArray, List.set_cons_zero, List.set_cons_succ])
                  refine wpAnyH_take (i := 8) (oi := _) (v := ?_) rfl (by kernel_rfl) (by kernel_rfl) (by kernel_rfl) (fun _ _ _ h => h) (Or.inl ⟨by rfl, ?_⟩) (by assumption) ?_
                  rotate_left 1
                  · intro w hSw
                    (first | (go_simp; done) | (go_simp; with_reducible rfl) | (go_simp; rw [if_neg (Nat.not_lt.2 (by assumption))]))
                  (try simp only [Act.put, List.getElem_toArray, List.getElem_cons_succ, List.getElem_cons_zero, List.setIfInBounds_toArray, List.set_cons_zero, List.set_cons_succ])
                  refine wpAnyH_take (i := 13) (oi := _) (v := ?_) rfl (by kernel_rfl) (by kernel_rfl) (by kernel_rfl) (fun _ _ _ h => h) (Or.inl ⟨by rfl, ?_⟩) (by assumption) ?_
                  rotate_left 1
                  · intro w hSw
                    (first | (go_simp; done) | (go_simp; with_reducible rfl) | (go_simp; rw [if_neg (Nat.not_lt.2 (by assumption))]))
                  (try simp only [Act.put, List.getElem_toArray, List.getElem_cons_succ, List.getElem_cons_zero, List.setIfInBounds_toArray, List.set_cons_zero, List.set_cons_succ])
                  refine wpAnyH_take (i := 14) (oi := _) (v := ?_) rfl (by kernel_rfl) (by kernel_rfl) (by kernel_rfl) (fun _ _ _ h => h) (Or.inl ⟨by rfl, ?_⟩) (by assumption) ?_
                  rotate_left 1
                  · intro w hSw
                    (first | (go_simp; done) | (go_simp; with_reducible rfl) | (go_simp; rw [if_neg (Nat.not_lt.2 (by assumption))]))
                  (try simp only [Act.put, List.getElem_toArray, List.getElem_cons_succ, List.getElem_cons_zero, List.setIfInBounds_toArray, List.set_cons_zero, List.set_cons_succ])
                  refine wpAnyH_take (i := 19) (oi := _) (v := ?_) rfl (by kernel_rfl) (by kernel_rfl) (by kernel_rfl) (fun _ _ _ h => h) (Or.inl ⟨by rfl, ?_⟩) (by assumption) ?_
                  rotate_left 1
                  · intro w hSw
                    (first | (go_simp; done) | (go_simp; with_reducible rfl) | (go_simp; rw [if_neg (Nat.not_lt.2 (by assumption))]))
                  (try simp only [Act.put, List.getElem_toArray, List.getElem_cons_succ, List.getElem_cons_zero, List.setIfInBounds_toArray, List.set_cons_zero, List.set_cons_succ])
                  refine wpAnyH_take (i := 20) (oi := _) (v := ?_) rfl (by kernel_rfl) (by kernel_rfl) (by kernel_rfl) (fun _ _ _ h => h) (Or.inl ⟨by rfl, ?_⟩) (by assumption) ?_
                  rotate_left 1
                  · intro w hSw
                    (first | (go_simp; done) | (go_simp; with_reducible rfl) | (go_simp; rw [if_neg (Nat.not_lt.2 (by assumption))]))
                  (try simp only [Act.put, List.getElem_toArray, List.getElem_cons_succ, List.getElem_cons_zero, List.setIfInBounds_toArray, List.set_cons_zero, List.set_cons_succ])
                  refine wpAnyH_done (by kernel_rfl) ?_ _
                  go_wp2
                  go_roundw
                  case rel => exact HFI.out _ hh32.bel
                  case measure => simp [intOf]; omega
                exact AllReadyH.nil
              exact AllReadyH.nil
            exact AllReadyH.nil
          refine AllReadyH.cons (o := _) rfl (fun K hK => ?_) ?_
          · go_simp
            refine hK.out _ _ (hh0.step (al1 _ _)) (fun hh33a => ?_)
            clear hK K
            (try simp only [Act.put, List.getElem_toArray, List.getElem_cons_succ, List.getElem_cons_zero, List.setIfInBounds_toArray, List.set_cons_zero, List.set_cons_succ])
            have hh33 := hh33a.add (heap_alloc_new V0 (.cells #[.string ⟨#[]⟩, .string ⟨#[32, 35, 32, 121]⟩, .string ⟨#[9, 32]⟩, .string ⟨#[35, 122]⟩] 9))
            clear hh33a
            generalize V0.alloc (.cells #[.string ⟨#[]⟩, .string ⟨#[32, 35, 32, 121]⟩, .string ⟨#[9, 32]⟩, .string ⟨#[35, 122]⟩] 9) = V33 at hh33 ⊢
            refine wpAnyH_sub (R := SB w9 [(V0.heap.size, .cells #[.string ⟨#[]⟩, .string ⟨#[32, 35, 32, 121]⟩, .string ⟨#[9, 32]⟩, .string ⟨#[35, 122]⟩] 9 (0, 0))]) (fun _ h => h.sub) _ _ _ _ ?_
            refine wpAnyH_take (i := 11) (oi := _) (v := ?_) rfl (by kernel_rfl) (by kernel_rfl) (by kernel_rfl) (fun _ _ _ h => h) (Or.inl ⟨by rfl, ?_⟩) (by assumption) ?_
            rotate_left 1
            · intro w hSw
              (first | (go_simp; done) | (go_simp; with_reducible rfl) | (go_simp; rw [if_neg (Nat.not_lt.2 (by assumption))]))
            (try simp only [Act.put, List.getElem_toArray, List.getElem_cons_succ, List.getElem_cons_zero, List.setIfInBounds_toArray, List.set_cons_zero, List.set_cons_succ])
            refine wpAnyH_take (i := 12) (oi := _) (v := ?_) rfl (by kernel_rfl) (by kernel_rfl) (by kernel_rfl) (fun _ _ _ h => h) (Or.inl ⟨by rfl, ?_⟩) (by assumption) ?_
            rotate_left 1
            · intro w hSw
              have cq : w.cell? ⟨V0.heap.size, kk, none⟩ = some (.string (str xB)) := (hSw.cell (g := V0.heap.size) (vs := #[.string ⟨#[]⟩, .string ⟨#[32, 35, 32, 121]⟩, .string ⟨#[9, 32]⟩, .string ⟨#[35, 122]⟩]) (t := 9) (.head _) kk).trans HrB.out
              (first | (go_simp; done) | (go_simp; with_reducible rfl) | (go_simp; rw [if_neg (Nat.not_lt.2 (by assumption))]))
            (try simp only [Act.put, List.getElem_toArray, List.getElem_cons_succ, List.getElem_cons_zero, List.setIfInBounds_toArray, List.set_cons_zero, List.set_cons_succ])
            refine wpAnyH_ready (rs := [1, 7, 15]) (by kernel_rfl) (by simp) ?_
            refine AllReadyH.cons (o := _) rfl (fun K hK => ?_) ?_
            · go_simp
              refine hK.out _ _ (hh33.step (al1 _ _)) (fun hh34a => ?_)
              clear hK K
              (try simp only [Act.put, List.getElem_toArray, List.getElem_cons_succ, List.getElem_cons_zero, List.setIfInBounds_toArray, List.set_cons_zero, List.set_cons_succ])
              have hh34 := hh34a.add (heap_alloc_new V33 (.cells #[.string ⟨#[]⟩, .string ⟨#[32]⟩, .string ⟨#[9]⟩, .string ⟨#[10, 35, 120, 10]⟩] 9))
              clear hh34a
              generalize V33.alloc (.cells #[.string ⟨#[]⟩, .string ⟨#[32]⟩, .string ⟨#[9]⟩, .string ⟨#[10, 35, 120, 10]⟩] 9) = V34 at hh34 ⊢
              refine wpAnyH_sub (R := SB w9 [(V33.heap.size, .cells #[.string ⟨#[]⟩, .string ⟨#[32]⟩, .string ⟨#[9]⟩, .string ⟨#[10, 35, 120, 10]⟩] 9 (0, 0)), (V0.heap.size, .cells #[.string ⟨#[]⟩, .string ⟨#[32, 35, 32, 121]⟩, .string ⟨#[9, 32]⟩, .string ⟨#[35, 122]⟩] 9 (0, 0))]) (fun _ h => h.sub) _ _ _ _ ?_
              refine wpAnyH_take (i := 3) (oi := _) (v := ?_) rfl (by kernel_rfl) (by kernel_rfl) (by kernel_rfl) (fun _ _ _ h => h) (Or.inl ⟨by rfl, ?_⟩) (by assumption) ?_
              rotate_left 1
              · intro w hSw
                (first | (go_simp; done) | (go_simp; with_reducible rfl) | (go_simp; rw [if_neg (Nat.not_lt.2 (by assumption))]))
              (try simp only [Act.put, List.getElem_toArray, List.getElem_cons_succ, List.getElem_cons_zero, List.setIfInBounds_toArray, List.set_cons_zero, List.set_cons_succ])
              refine wpAnyH_take (i := 4) (oi := _) (v := ?_) rfl (by kernel_rfl) (by kernel_rfl) (by kernel_rfl) (fun _ _ _ h => h) (Or.inl ⟨by rfl, ?_⟩) (by assumption) ?_
              rotate_left 1
              · intro w hSw
                have cq : w.cell? ⟨V33.heap.size, kk, none⟩ = some (.string (str xA)) := (hSw.cell (g := V33.heap.size) (vs := #[.string ⟨#[]⟩, .string ⟨#[32]⟩, .string ⟨#[9]⟩, .string ⟨#[10, 35, 120, 10]⟩]) (t := 9) (.head _) kk).trans HrA.out
                (first | (go_simp; done) | (go_simp; with_reducible rfl) | (go_simp; rw [if_neg (Nat.not_lt.2 (by assumption))]))
              (try simp only [Act.put, List.getElem_toArray, List.getElem_cons_succ, List.getElem_cons_zero, List.setIfInBounds_toArray, List.set_cons_zero, List.set_cons_succ])
              refine wpAnyH_take (i := 5) (oi := _) (v := ?_) rfl (by kernel_rfl) (by kernel_rfl) (by kernel_rfl) (fun _ _ _ h => h) (Or.inl ⟨by rfl, ?_⟩) (by assumption) ?_
              rotate_left 1
              · intro w hSw
                (first | (go_simp; done) | (go_simp; with_reducible rfl) | (go_simp; rw [if_neg (Nat.not_lt.2 (by assumption))]))
              (try simp only [Act.put, List.getElem_toArray, List.getElem_cons_succ, List.getElem_cons_zero, List.setIfInBounds_toArray, List.set_cons_zero, List.set_cons_succ])
              refine wpAnyH_ready (rs := [7, 15]) (by kernel_rfl) (by simp) ?_
              refine AllReadyH.cons (o := _) rfl (fun K hK => ?_) ?_
              · go_simp
                (go_at_call 10)
                ((with_reducible refine (HLN.out _ hh34.bel).mono ?_))
                rintro e V35 ⟨rfl, hbl⟩
                refine hK.out _ _ (hh34.step hbl) (fun hh35 => ?_)
                clear hK K hbl
                (try simp only [Act.put, List.getElem_toArray, List.getElem_cons_succ, List.getElem_cons_zero, List.setIfInBounds_toArray, List.set_cons_zero, List.set_cons_succ])
                refine wpAnyH_take (i := 8) (oi := _) (v := ?_) rfl (by kernel_rfl) (by kernel_rfl) (by kernel_rfl) (fun _ _ _ h => h) (Or.inl ⟨by rfl, ?_⟩) (by assumption) ?_
                rotate_left 1
                · intro w hSw
                  (first | (go_simp; done) | (go_simp; with_reducible rfl) | (go_simp; rw [if_neg (Nat.not_lt.2 (by assumption))]))
                (try simp only [Act.put, List.getElem_toArray, List.getElem_cons_succ, List.getElem_cons_zero, List.setIfInBounds_toArray, List.set_cons_zero, List.set_cons_succ])
                refine wpAnyH_take (i := 13) (oi := _) (v := ?_) rfl (by kernel_rfl) (by kernel_rfl) (by kernel_rfl) (fun _ _ _ h => h) (Or.inl ⟨by rfl, ?_⟩) (by assumption) ?_
                rotate_left 1
                · intro w hSw
                  (first | (go_simp; done) | (go_simp; with_reducible rfl) | (go_simp; rw [if_neg (Nat.not_lt.2 (by assumption))]))
                (try simp only [Act.put, List.getElem_toArray, List.getElem_cons_succ, List.getElem_cons_zero, List.setIfInBounds_toArray, List.set_cons_zero, List.set_cons_succ])
                refine wpAnyH_take (i := 14) (oi := _) (v := ?_) rfl (by kernel_rfl) (by kernel_rfl) (by kernel_rfl) (fun _ _ _ h => h) (Or.inl ⟨by rfl, ?_⟩) (by assumption) ?_
                rotate_left 1
                · intro w hSw
                  (first | (go_simp; done) | (go_simp; with_reducible rfl) | (go_simp; rw [if_neg (Nat.not_lt.2 (by assumption))]))
                (try simp only [Act.put, List.getElem_toArray, List.getElem_cons_succ, List.getElem_cons_zero, List.setIfInBounds_toArray, List.set_cons_zero, List.set_cons_succ])
                refine wpAnyH_ready (rs := [15]) (by kernel_rfl) (by simp) ?_
                refine AllReadyH.cons (o := _) rfl (fun K hK => ?_) ?_
                · go_simp
                  refine hK.out _ _ (hh35.step (al1 _ _)) (fun hh36a => ?_)
                  clear hK K
                  (try simp only [Act.put, List.getElem_toArray, List.getElem_cons_succ, List.getElem_cons_zero, List.setIfInBounds_toArray, List.set_cons_zero, List.set_cons_succ])
                  have hh36 := hh36a.add (heap_alloc_new V35 (.cells #[.string ⟨#[]⟩, .string ⟨#[10]⟩, .string ⟨#[32, 10]⟩, .string ⟨#[35, 10]⟩] 9))
                  clear hh36a
                  generalize V35.alloc (.cells #[.string ⟨#[]⟩, .string ⟨#[10]⟩, .string ⟨#[32, 10]⟩, .string ⟨#[35, 10]⟩] 9) = V36 at hh36 ⊢
                  refine wpAnyH_sub (R := SB w9 [(V35.heap.size, .cells #[.string ⟨#[]⟩, .string ⟨#[10]⟩, .string ⟨#[32, 10]⟩, .string ⟨#[35, 10]⟩] 9 (0, 0)), (V33.heap.size, .cells #[.string ⟨#[]⟩, .string ⟨#[32]⟩, .string ⟨#[9]⟩, .string ⟨#[10, 35, 120, 10]⟩] 9 (0, 0)), (V0.heap.size, .cells #[.string ⟨#[]⟩, .string ⟨#[32, 35, 32, 121]⟩, .string ⟨#[9, 32]⟩, .string ⟨#[35, 122]⟩] 9 (0, 0))]) (fun _ h => h.sub) _ _ _ _ ?_
                  refine wpAnyH_take (i := 17) (oi := _) (v := ?_) rfl (by kernel_rfl) (by kernel_rfl) (by kernel_rfl) (fun _ _ _ h => h) (Or.inl ⟨by rfl, ?_⟩) (by assumption) ?_
                  rotate_left 1
                  · intro w hSw
                    (first | (go_simp; done) | (go_simp; with_reducible rfl) | (go_simp; rw [if_neg (Nat.not_lt.2 (by assumption))]))
                  (try simp only [Act.put, List.getElem_toArray, List.getElem_cons_succ, List.getElem_cons_zero, List.setIfInBounds_toArray, List.set_cons_zero, List.set_cons_succ])
                  refine wpAnyH_take (i := 18) (oi := _) (v := ?_) rfl (by kernel_rfl) (by kernel_rfl) (by kernel_rfl) (fun _ _ _ h => h) (Or.inl ⟨by rfl, ?_⟩) (by assumption) ?_
                  rotate_left 1
                  · intro w hSw
                    have cq : w.cell? ⟨V35.heap.size, kk, none⟩ = some (.string (str xC)) := (hSw.cell (g := V35.heap.size) (vs := #[.string ⟨#[]⟩, .string ⟨#[10]⟩, .string ⟨#[32, 10]⟩, .string ⟨#[35, 10]⟩]) (t := 9) (.head _) kk).trans HrC.out
                    (first | (go_simp; done) | (go_simp; with_reducible rfl) | (go_simp; rw [if_neg (Nat.not_lt.2 (by assumption))]))
                  (try simp only [Act.put, List.getElem_toArray, List.getElem_cons_succ, List.getElem_cons_zero, List.setIfInBounds_toArray, List.set_cons_zero, List.set_cons_succ])
                  refine wpAnyH_take (i := 19) (oi := _) (v := ?_) rfl (by kernel_rfl) (by kernel_rfl) (by kernel_rfl) (fun _ _ _ h => h) (Or.inl ⟨by rfl, ?_⟩) (by assumption) ?_
                  rotate_left 1
                  · intro w hSw
                    (first | (go_simp; done) | (go_simp; with_reducible rfl) | (go_simp; rw [if_neg (Nat.not_lt.2 (by assumption))]))
                  (try simp only [Act.put, List.getElem_toArray, List.getElem_cons_succ, List.getElem_cons_zero, List.setIfInBounds_toArray, List.set_cons_zero, List.set_cons_succ])
                  refine wpAnyH_take (i := 20) (oi := _) (v := ?_) rfl (by kernel_rfl) (by kernel_rfl) (by kernel_rfl) (fun _ _ _ h => h) (Or.inl ⟨by rfl, ?_⟩) (by assumption) ?_
                  rotate_left 1
                  · intro w hSw
                    (first | (go_simp; done) | (go_simp; with_reducible rfl) | (go_simp; rw [if_neg (Nat.not_lt.2 (by assumption))]))
                  (try simp only [Act.put, List.getElem_toArray, List.getElem_cons_succ, List.getElem_cons_zero, List.setIfInBounds_toArray, List.set_cons_zero, List.set_cons_succ])
                  refine wpAnyH_done (by kernel_rfl) ?_ _
                  go_wp2
                  go_roundw
                  case rel => exact HFI.out _ hh36.bel
                  case measure => simp [intOf]; omega
                exact AllReadyH.nil
              refine AllReadyH.cons (o := _) rfl (fun K hK => ?_) ?_
              · go_simp
                refine hK.out _ _ (hh34.step (al1 _ _)) (fun hh37a => ?_)
                clear hK K
                (try simp only [Act.put, List.getElem_toArray, List.getElem_cons_succ, List.getElem_cons_zero, List.setIfInBounds_toArray, List.set_cons_zero, List.set_cons_succ])
                have hh37 := hh37a.add (heap_alloc_new V34 (.cells #[.string ⟨#[]⟩, .string ⟨#[10]⟩, .string ⟨#[32, 10]⟩, .string ⟨#[35, 10]⟩] 9))
                clear hh37a
                generalize V34.alloc (.cells #[.string ⟨#[]⟩, .string ⟨#[10]⟩, .string ⟨#[32, 10]⟩, .string ⟨#[35, 10]⟩] 9) = V37 at hh37 ⊢
                refine wpAnyH_sub (R := SB w9 [(V34.heap.size, .cells #[.string ⟨#[]⟩, .string ⟨#[10]⟩, .string ⟨#[32, 10]⟩, .string ⟨#[35, 10]⟩] 9 (0, 0)), (V33.heap.size, .cells #[.string ⟨#[]⟩, .string ⟨#[32]⟩, .string ⟨#[9]⟩, .string ⟨#[10, 35, 120, 10]⟩] 9 (0, 0)), (V0.heap.size, .cells #[.string ⟨#[]⟩, .string ⟨#[32, 35, 32, 121]⟩, .string ⟨#[9, 32]⟩, .string ⟨#[35, 122]⟩] 9 (0, 0))]) (fun _ h => h.sub) _ _ _ _ ?_
                refine wpAnyH_take (i := 17) (oi := _) (v := ?_) rfl (by kernel_rfl) (by kernel_rfl) (by kernel_rfl) (fun _ _ _ h => h) (Or.inl ⟨by rfl, ?_⟩) (by assumption) ?_
                rotate_left 1
                · intro w hSw
                  (first | (go_simp; done) | (go_simp; with_reducible rfl) | (go_simp; rw [if_neg (Nat.not_lt.2 (by assumption))]))
                (try simp only [Act.put, List.getElem_toArray, List.getElem_cons_succ, List.getElem_cons_zero, List.setIfInBounds_toArray, List.set_cons_zero, List.set_cons_succ])
                refine wpAnyH_take (i := 18) (oi := _) (v := ?_) rfl (by kernel_rfl) (by kernel_rfl) (by kernel_rfl) (fun _ _ _ h => h) (Or.inl ⟨by rfl, ?_⟩) (by assumption) ?_
                rotate_left 1
                · intro w hSw
                  have cq : w.cell? ⟨V34.heap.size, kk, none⟩ = some (.string (str xC)) := (hSw.cell (g := V34.heap.size) (vs := #[.string ⟨#[]⟩, .string ⟨#[10]⟩, .string ⟨#[32, 10]⟩, .string ⟨#[35, 10]⟩]) (t := 9) (.head _) kk).trans HrC.out
                  (first | (go_simp; done) | (go_simp; with_reducible rfl) | (go_simp; rw [if_neg (Nat.not_lt.2 (by assumption))]))
                (try simp only [Act.put, List.getElem_toArray, List.getElem_cons_succ, List.getElem_cons_zero, List.setIfInBounds_toArray, List.set_cons_zero, List.set_cons_succ])
                refine wpAnyH_ready (rs := [7]) (by kernel_rfl) (by simp) ?_
                refine AllReadyH.cons (o := _) rfl (fun K hK => ?_) ?_
                · go_simp
                  (go_at_call 10)
                  ((with_reducible refine (HLN.out _ hh37.bel).mono ?_))
                  rintro e V38 ⟨rfl, hbl⟩
                  refine hK.out _ _ (hh37.step hbl) (fun hh38 => ?_)
                  clear hK K hbl
                  (try simp only [Act.put, List.getElem_toArray, List.getElem_cons_succ, List.getElem_cons_zero, List.setIfInBounds_toArray, List.set_cons_zero, List.set_cons_succ])
                  refine wpAnyH_take (i := 8) (oi := _) (v := ?_) rfl (by kernel_rfl) (by kernel_rfl) (by kernel_rfl) (fun _ _ _ h => h) (Or.inl ⟨by rfl, ?_⟩) (by assumption) ?_
                  rotate_left 1
                  · intro w hSw
                    (first | (go_simp; done) | (go_simp; with_reducible rfl) | (go_simp; rw [if_neg (Nat.not_lt.2 (by assumption))]))
                  (try simp only [Act.put, List.getElem_toArray, List.getElem_cons_succ, List.getElem_cons_zero, List.setIfInBounds_toArray, List.set_cons_zero, List.set_cons_succ])
                  refine wpAnyH_take (i := 13) (oi := _) (v := ?_) rfl (by kernel_rfl) (by kernel_rfl) (by kernel_rfl) (fun _ _ _ h => h) (Or.inl ⟨by rfl, ?_⟩) (by assumption) ?_
                  rotate_left 1
                  · intro w hSw
                    (first | (go_simp; done) | (go_simp; with_reducible rfl) | (go_simp; rw [if_neg (Nat.not_lt.2 (by assumption))]))
                  (try simp only [Act.put, List.getElem_toArray, List.getElem_cons_succ, List.getElem_cons_zero, List.setIfInBounds_toArray, List.set_cons_zero, List.set_cons_succ])
                  refine wpAnyH_take (i := 14) (oi := _) (v := ?_) rfl (by kernel_rfl) (by kernel_rfl) (by kernel_rfl) (fun _ _ _ h => h) (Or.inl ⟨by rfl, ?_⟩) (by assumption) ?_
                  rotate_left 1
                  · intro w hSw
                    (first | (go_simp; done) | (go_simp; with_reducible rfl) | (go_simp; rw [if_neg (Nat.not_lt.2 (by assumption))]))
                  (try simp only [Act.put, List.getElem_toArray, List.getElem_cons_succ, List.getElem_cons_zero, List.setIfInBounds_toArray, List.set_cons_zero, List.set_cons_succ])
                  refine wpAnyH_take (i := 19) (oi := _) (v := ?_) rfl (by kernel_rfl) (by kernel_rfl) (by kernel_rfl) (fun _ _ _ h => h) (Or.inl ⟨by rfl, ?_⟩) (by assumption) ?_
                  rotate_left 1
                  · intro w hSw
                    (first | (go_simp; done) | (go_simp; with_reducible rfl) | (go_simp; rw [if_neg (Nat.not_lt.2 (by assumption))]))
                  (try simp only [Act.put, List.getElem_toArray, List.getElem_cons_succ, List.getElem_cons_zero, List.setIfInBounds_toArray, List.set_cons_zero, List.set_cons_succ])
                  refine wpAnyH_take (i := 20) (oi := _) (v := ?_) rfl (by kernel_rfl) (by kernel_rfl) (by kernel_rfl) (fun _ _ _ h => h) (Or.inl ⟨by rfl, ?_⟩) (by assumption) ?_
                  rotate_left 1
                  · intro w hSw
                    (first | (go_simp; done) | (go_simp; with_reducible rfl) | (go_simp; rw [if_neg (Nat.not_lt.2 (by assumption))]))
                  (try simp only [Act.put, List.getElem_toArray, List.getElem_cons_succ, List.getElem_cons_zero, List.setIfInBounds_toArray, List.set_cons_zero, List.set_cons_succ])
                  refine wpAnyH_done (by kernel_rfl) ?_ _
                  go_wp2
                  go_roundw
                  case rel => exact HFI.out _ hh38.bel
                  case measure => simp [intOf]; omega
                exact AllReadyH.nil
              exact AllReadyH.nil
            refine AllReadyH.cons (o := _) rfl (fun K hK => ?_) ?_
            · go_simp
              (go_at_call 10)
              ((with_reducible refine (HLN.out _ hh33.bel).mono ?_))
              rintro e V39 ⟨rfl, hbl⟩
              refine hK.out _ _ (hh33.step hbl) (fun hh39 => ?_)
              clear hK K hbl
              (try simp only [Act.put, List.getElem_toArray, List.getElem_cons_succ, List.getElem_cons_zero, List.setIfInBounds_toArray, List.set_cons_zero, List.set_cons_succ])
              refine wpAnyH_ready (rs := [1, 15]) (by kernel_rfl) (by simp) ?_
              refine AllReadyH.cons (o := _) rfl (fun K hK => ?_) ?_
              · go_simp
                refine hK.out _ _ (hh39.step (al1 _ _)) (fun hh40a => ?_)
                clear hK K
                (try simp only [Act.put, List.getElem_toArray, List.getElem_cons_succ, List.getElem_cons_zero, List.setIfInBounds_toArray, List.set_cons_zero, List.set_cons_succ])
                have hh40 := hh40a.add (heap_alloc_new V39 (.cells #[.string ⟨#[]⟩, .string ⟨#[32]⟩, .string ⟨#[9]⟩, .string ⟨#[10, 35, 120, 10]⟩] 9))
                clear hh40a
                generalize V39.alloc (.cells #[.string ⟨#[]⟩, .string ⟨#[32]⟩, .string ⟨#[9]⟩, .string ⟨#[10, 35, 120, 10]⟩] 9) = V40 at hh40 ⊢
                refine wpAnyH_sub (R := SB w9 [(V39.heap.size, .cells #[.string ⟨#[]⟩, .string ⟨#[32]⟩, .string ⟨#[9]⟩, .string ⟨#[10, 35, 120, 10]⟩] 9 (0, 0)), (V0.heap.size, .cells #[.string ⟨#[]⟩, .string ⟨#[32, 35, 32, 121]⟩, .string ⟨#[9, 32]⟩, .string ⟨#[35, 122]⟩] 9 (0, 0))]) (fun _ h => h.sub) _ _ _ _ ?_
                refine wpAnyH_take (i := 3) (oi := _) (v := ?_) rfl (by kernel_rfl) (by kernel_rfl) (by kernel_rfl) (fun _ _ _ h => h) (Or.inl ⟨by rfl, ?_⟩) (by assumption) ?_
                rotate_left 1
                · intro w hSw
                  (first | (go_simp; done) | (go_simp; with_reducible rfl) | (go_simp; rw [if_neg (Nat.not_lt.2 (by assumption))]))
                (try simp only [Act.put, List.getElem_toArray, List.getElem_cons_succ, List.getElem_cons_zero, List.setIfInBounds_toArray, List.set_cons_zero, List.set_cons_succ])
                refine wpAnyH_take (i := 4) (oi := _) (v := ?_) rfl (by kernel_rfl) (by kernel_rfl) (by kernel_rfl) (fun _ _ _ h => h) (Or.inl ⟨by rfl, ?_⟩) (by assumption) ?_
                rotate_left 1
                · intro w hSw
                  have cq : w.cell? ⟨V39.heap.size, kk, none⟩ = some (.string (str xA)) := (hSw.cell (g := V39.heap.size) (vs := #[.string ⟨#[]⟩, .string ⟨#[32]⟩, .string ⟨#[9]⟩, .string ⟨#[10, 35, 120, 10]⟩]) (t := 9) (.head _) kk).trans HrA.out
                  (first | (go_simp; done) | (go_simp; with_reducible rfl) | (go_simp; rw [if_neg (Nat.not_lt.2 (by assumption))]))
                (try simp only [Act.put, List.getElem_toArray, List.getElem_cons_succ, List.getElem_cons_zero, List.setIfInBounds_toArray, List.set_cons_zero, List.set_cons_succ])
                refine wpAnyH_take (i := 5) (oi := _) (v := ?_) rfl (by kernel_rfl) (by kernel_rfl) (by kernel_rfl) (fun _ _ _ h => h) (Or.inl ⟨by rfl, ?_⟩) (by assumption) ?_
                rotate_left 1
                · intro w hSw
                  (first | (go_simp; done) | (go_simp; with_reducible rfl) | (go_simp; rw [if_neg (Nat.not_lt.2 (by assumption))]))
                (try simp only [Act.put, List.getElem_toArray, List.getElem_cons_succ, List.getElem_cons_zero, List.setIfInBounds_toArray, List.set_cons_zero, List.set_cons_succ])
                refine wpAnyH_take (i := 8) (oi := _) (v := ?_) rfl (by kernel_rfl) (by kernel_rfl) (by kernel_rfl) (fun _ _ _ h => h) (Or.inl ⟨by rfl, ?_⟩) (by assumption) ?_
                rotate_left 1
                · intro w hSw
                  (first | (go_simp; done) | (go_simp; with_reducible rfl) | (go_simp; rw [if_neg (Nat.not_lt.2 (by assumption))]))
                (try simp only [Act.put, List.getElem_toArray, List.getElem_cons_succ, List.getElem_cons_zero, List.setIfInBounds_toArray, List.set_cons_zero, List.set_cons_succ])
                refine wpAnyH_take (i := 13) (oi := _) (v := ?_) rfl (by kernel_rfl) (by kernel_rfl) (by kernel_rfl) (fun _ _ _ h => h) (Or.inl ⟨by rfl, ?_⟩) (by assumption) ?_
                rotate_left 1
                · intro w hSw
                  (first | (go_simp; done) | (go_simp; with_reducible rfl) | (go_simp; rw [if_neg (Nat.not_lt.2 (by assumption))]))
                (try simp only [Act.put, List.getElem_toArray, List.getElem_cons_succ, List.getElem_cons_zero, List.setIfInBounds_toArray, List.set_cons_zero, List.set_cons_succ])
                refine wpAnyH_take (i := 14) (oi := _) (v := ?_) rfl (by kernel_rfl) (by kernel_rfl) (by kernel_rfl) (fun _ _ _ h => h) (Or.inl ⟨by rfl, ?_⟩) (by assumption) ?_
                rotate_left 1
                · intro w hSw
                  (first | (go_simp; done) | (go_simp; with_reducible rfl) | (go_simp; rw [if_neg (Nat.not_lt.2 (by assumption))]))
                (try simp only [Act.put, List.getElem_toArray, List.getElem_cons_succ, List.getElem_cons_zero, List.setIfInBounds_toArray, List.set_cons_zero, List.set_cons_succ])
                refine wpAnyH_ready (rs := [15]) (by kernel_rfl) (by simp) ?_
                refine AllReadyH.cons (o := _) rfl (fun K hK => ?_) ?_
                · go_simp
                  refine hK.out _ _ (hh40.step (al1 _ _)) (fun hh41a => ?_)
                  clear hK K
                  (try simp only [Act.put, List.getElem_toArray, List.getElem_cons_succ, List.getElem_cons_zero, List.setIfInBounds_toArray, List.set_cons_zero, List.set_cons_succ])
                  have hh41 := hh41a.add (heap_alloc_new V40 (.cells #[.string ⟨#[]⟩, .string ⟨#[10]⟩, .string ⟨#[32, 10]⟩, .string ⟨#[35, 10]⟩] 9))
                  clear hh41a
                  generalize V40.alloc (.cells #[.string ⟨#[]⟩, .string ⟨#[10]⟩, .string ⟨#[32, 10]⟩, .string ⟨#[35, 10]⟩] 9) = V41 at hh41 ⊢
                  refine wpAnyH_sub (R := SB w9 [(V40.heap.size, .cells #[.string ⟨#[]⟩, .string ⟨#[10]⟩, .string ⟨#[32, 10]⟩, .string ⟨#[35, 10]⟩] 9 (0, 0)), (V39.heap.size, .cells #[.string ⟨#[]⟩, .string ⟨#[32]⟩, .string ⟨#[9]⟩, .string ⟨#[10, 35, 120, 10]⟩] 9 (0, 0)), (V0.heap.size, .cells #[.string ⟨#[]⟩, .string ⟨#[32, 35, 32, 121]⟩, .string ⟨#[9, 32]⟩, .string ⟨#[35, 122]⟩] 9 (0, 0))]) (fun _ h => h.sub) _ _ _ _ ?_
                  refine wpAnyH_take (i := 17) (oi := _) (v := ?_) rfl (by kernel_rfl) (by kernel_rfl) (by kernel_rfl) (fun _ _ _ h => h) (Or.inl ⟨by rfl, ?_⟩) (by assumption) ?_
                  rotate_left 1
                  · intro w hSw
                    (first | (go_simp; done) | (go_simp; with_reducible rfl) | (go_simp; rw [if_neg (Nat.not_lt.2 (by assumption))]))
                  (try simp only [Act.put, List.getElem_toArray, List.getElem_cons_succ, List.getElem_cons_zero, List.setIfInBounds_toArray, List.set_cons_zero, List.set_cons_succ])
                  refine wpAnyH_take (i := 18) (oi := _) (v := ?_) rfl (by kernel_rfl) (by kernel_rfl) (by kernel_rfl) (fun _ _ _ h => h) (Or.inl ⟨by rfl, ?_⟩) (by assumption) ?_
                  rotate_left 1
                  · intro w hSw
                    have cq : w.cell? ⟨V40.heap.size, kk, none⟩ = some (.string (str xC)) := (hSw.cell (g := V40.heap.size) (vs := #[.string ⟨#[]⟩, .string ⟨#[10]⟩, .string ⟨#[32, 10]⟩, .string ⟨#[35, 10]⟩]) (t := 9) (.head _) kk).trans HrC.out
                    (first | (go_simp; done) | (go_simp; with_reducible rfl) | (go_simp; rw [if_neg (Nat.not_lt.2 (by assumption))]))
                  (try simp only [Act.put, List.getElem_toArray, List.getElem_cons_succ, List.getElem_cons_zero, List.setIfInBounds_toArray, List.set_cons_zero, List.set_cons_succ])
                  refine wpAnyH_take (i := 19) (oi := _) (v := ?_) rfl (by kernel_rfl) (by kernel_rfl) (by kernel_rfl) (fun _ _ _ h => h) (Or.inl ⟨by rfl, ?_⟩) (by assumption) ?_
                  rotate_left 1
                  · intro w hSw
                    (first | (go_simp; done) | (go_simp; with_reducible rfl) | (go_simp; rw [if_neg (Nat.not_lt.2 (by assumption))]))
                  (try simp only [Act.put, List.getElem_toArray, List.getElem_cons_succ, List.getElem_cons_zero, List.setIfInBounds_toArray, List.set_cons_zero, List.set_cons_succ])
                  refine wpAnyH_take (i := 20) (oi := _) (v := ?_) rfl (by kernel_rfl) (by kernel_rfl) (by kernel_rfl) (fun _ _ _ h => h) (Or.inl ⟨by rfl, ?_⟩) (by assumption) ?_
                  rotate_left 1
                  · intro w hSw
                    (first | (go_simp; done) | (go_simp; with_reducible rfl) | (go_simp; rw [if_neg (Nat.not_lt.2 (by assumption))]))
                  (try simp only [Act.put, List.getElem_toArray, List.getElem_cons_succ, List.getElem_cons_zero, List.setIfInBounds_toArray, List.set_cons_zero, List.set_cons_succ])
                  refine wpAnyH_done (by kernel_rfl) ?_ _
                  go_wp2
                  go_roundw
                  case rel => exact HFI.out _ hh41.bel
                  case measure => simp [intOf]; omega
                exact AllReadyH.nil
              refine AllReadyH.cons (o := _) rfl (fun K hK => ?_) ?_
              · go_simp
                refine hK.out _ _ (hh39.step (al1 _ _)) (fun hh42a => ?_)
                clear hK K
                (try simp only [Act.put, List.getElem_toArray, List.getElem_cons_succ, List.getElem_cons_zero, List.setIfInBounds_toArray, List.set_cons_zero, List.set_cons_succ])
                have hh42 := hh42a.add (heap_alloc_new V39 (.cells #[.string ⟨#[]⟩, .string ⟨#[10]⟩, .string ⟨#[32, 10]⟩, .string ⟨#[35, 10]⟩] 9))
                clear hh42a
                generalize V39.alloc (.cells #[.string ⟨#[]⟩, .string ⟨#[10]⟩, .string ⟨#[32, 10]⟩, .string ⟨#[35, 10]⟩] 9) = V42 at hh42 ⊢
                refine wpAnyH_sub (R := SB w9 [(V39.heap.size, .cells #[.string ⟨#[]⟩, .string ⟨#[10]⟩, .string ⟨#[32, 10]⟩, .string ⟨#[35, 10]⟩] 9 (0, 0)), (V0.heap.size, .cells #[.string ⟨#[]⟩, .string ⟨#[32, 35, 32, 121]⟩, .string ⟨#[9, 32]⟩, .string ⟨#[35, 122]⟩] 9 (0, 0))]) (fun _ h => h.sub) _ _ _ _ ?_
                refine wpAnyH_take (i := 17) (oi := _) (v := ?_) rfl (by kernel_rfl) (by kernel_rfl) (by kernel_rfl) (fun _ _ _ h => h) (Or.inl ⟨by rfl, ?_⟩) (by assumption) ?_
                rotate_left 1
                · intro w hSw
                  (first | (go_simp; done) | (go_simp; with_reducible rfl) | (go_simp; rw [if_neg (Nat.not_lt.2 (by assumption))]))
                (try simp only [Act.put, List.getElem_toArray, List.getElem_cons_succ, List.getElem_cons_zero, List.setIfInBounds_toArray, List.set_cons_zero, List.set_cons_succ])
                refine wpAnyH_take (i := 18) (oi := _) (v := ?_) rfl (by kernel_rfl) (by kernel_rfl) (by kernel_rfl) (fun _ _ _ h => h) (Or.inl ⟨by rfl, ?_⟩) (by assumption) ?_
                rotate_left 1
                · intro w hSw
                  have cq : w.cell? ⟨V39.heap.size, kk, none⟩ = some (.string (str xC)) := (hSw.cell (g := V39.heap.size) (vs := #[.string ⟨#[]⟩, .string ⟨#[10]⟩, .string ⟨#[32, 10]⟩, .string ⟨#[35, 10]⟩]) (t := 9) (.head _) kk).trans HrC.out
                  (first | (go_simp; done) | (go_simp; with_reducible rfl) | (go_simp; rw [if_neg (Nat.not_lt.2 (by assumption))]))
                (try simp only [Act.put, List.getElem_toArray, List.getElem_cons_succ, List.getElem_cons_zero, List.setIfInBounds_toArray, List.set_cons_zero, List.set_cons_succ])
                refine wpAnyH_ready (rs := [1]) (by kernel_rfl) (by simp) ?_
                refine AllReadyH.cons (o := _) rfl (fun K hK => ?_) ?_
                · go_simp
                  refine hK.out _ _ (hh42.step (al1 _ _)) (fun hh43a => ?_)
                  clear hK K
                  (try simp only [Act.put, List.getElem_toArray, List.getElem_cons_succ, List.getElem_cons_zero, List.setIfInBounds_toArray, List.set_cons_zero, List.set_cons_succ])
                  have hh43 := hh43a.add (heap_alloc_new V42 (.cells #[.string ⟨#[]⟩, .string ⟨#[32]⟩, .string ⟨#[9]⟩, .string ⟨#[10, 35, 120, 10]⟩] 9))
                  clear hh43a
                  generalize V42.alloc (.cells #[.string ⟨#[]⟩, .string ⟨#[32]⟩, .string ⟨#[9]⟩, .string ⟨#[10, 35, 120, 10]⟩] 9) = V43 at hh43 ⊢
                  refine wpAnyH_sub (R := SB w9 [(V42.heap.size, .cells #[.string ⟨#[]⟩, .string ⟨#[32]⟩, .string ⟨#[9]⟩, .string ⟨#[10, 35, 120, 10]⟩] 9 (0, 0)), (V39.heap.size, .cells #[.string ⟨#[]⟩, .string ⟨#[10]⟩, .string ⟨#[32, 10]⟩, .string ⟨#[35, 10]⟩] 9 (0, 0)), (V0.heap.size, .cells #[.string ⟨#[]⟩, .string ⟨#[32, 35, 32, 121]⟩, .string ⟨#[9, 32]⟩, .string ⟨#[35, 122]⟩] 9 (0, 0))]) (fun _ h => h.sub) _ _ _ _ ?_
                  refine wpAnyH_take (i := 3) (oi := _) (v := ?_) rfl (by kernel_rfl) (by kernel_rfl) (by kernel_rfl) (fun _ _ _ h => h) (Or.inl ⟨by rfl, ?_⟩) (by assumption) ?_
                  rotate_left 1
                  · intro w hSw
                    (first | (go_simp; done) | (go_simp; with_reducible rfl) | (go_simp; rw [if_neg (Nat.not_lt.2 (by assumption))]))
                  (try simp only [Act.put, List.getElem_toArray, List.getElem_cons_succ, List.getElem_cons_zero, List.setIfInBounds_toArray, List.set_cons_zero, List.set_cons_succ])
                  refine wpAnyH_take (i := 4) (oi := _) (v := ?_) rfl (by kernel_rfl) (by kernel_rfl) (by kernel_rfl) (fun _ _ _ h => h) (Or.inl ⟨by rfl, ?_⟩) (by assumption) ?_
                  rotate_left 1
                  · intro w hSw
                    have cq : w.cell? ⟨V42.heap.size, kk, none⟩ = some (.string (str xA)) := (hSw.cell (g := V42.heap.size) (vs := #[.string ⟨#[]⟩, .string ⟨#[32]⟩, .string ⟨#[9]⟩, .string ⟨#[10, 35, 120, 10]⟩]) (t := 9) (.head _) kk).trans HrA.out
                    (first | (go_simp; done) | (go_simp; with_reducible rfl) | (go_simp; rw [if_neg (Nat.not_lt.2 (by assumption))]))
                  (try simp only [Act.put, List.getElem_toArray, List.getElem_cons_succ, List.getElem_cons_zero, List.setIfInBounds_toArray, List.set_cons_zero, List.set_cons_succ])
                  refine wpAnyH_take (i := 5) (oi := _) (v := ?_) rfl (by kernel_rfl) (by kernel_rfl) (by kernel_rfl) (fun _ _ _ h => h) (Or.inl ⟨by rfl, ?_⟩) (by assumption) ?_
                  rotate_left 1
                  · intro w hSw
                    (first | (go_simp; done) | (go_simp; with_reducible rfl) | (go_simp; rw [if_neg (Nat.not_lt.2 (by assumption))]))
                  (try simp only [Act.put, List.getElem_toArray, List.getElem_cons_succ, List.getElem_cons_zero, List.setIfInBounds_toArray, List.set_cons_zero, List.set_cons_succ])
                  refine wpAnyH_take (i := 8) (oi := _) (v := ?_) rfl (by kernel_rfl) (by kernel_rfl) (by kernel_rfl) (fun _ _ _ h => h) (Or.inl ⟨by rfl, ?_⟩) (by assumption) ?_
                  rotate_left 1
                  · intro w hSw
                    (first | (go_simp; done) | (go_simp; with_reducible rfl) | (go_simp; rw [if_neg (Nat.not_lt.2 (by assumption))]))
                  (try simp only [Act.put, List.getElem_toArray, List.getElem_cons_succ, List.getElem_cons_zero, List.setIfInBounds_toArray, List.set_cons_zero, List.set_cons_succ])
                  refine wpAnyH_take (i := 13) (oi := _) (v := ?_) rfl (by kernel_rfl) (by kernel_rfl) (by kernel_rfl) (fun _ _ _ h => h) (Or.inl ⟨by rfl, ?_⟩) (by assumption) ?_
                  rotate_left 1
                  · intro w hSw
                    (first | (go_simp; done) | (go_simp; with_reducible rfl) | (go_simp; rw [if_neg (Nat.not_lt.2 (by assumption))]))
                  (try simp only [Act.put, List.getElem_toArray, List.getElem_cons_succ, List.getElem_cons_zero, List.setIfInBounds_toArray, List.set_cons_zero, List.set_cons_succ])
                  refine wpAnyH_take (i := 14) (oi := _) (v := ?_) rfl (by kernel_rfl) (by kernel_rfl) (by kernel_rfl) (fun _ _ _ h => h) (Or.inl ⟨by rfl, ?_⟩) (by assumption) ?_
                  rotate_left 1
                  · intro w hSw
                    (first | (go_simp; done) | (go_simp; with_reducible rfl) | (go_simp; rw [if_neg (Nat.not_lt.2 (by assumption))]))
                  (try simp only [Act.put, List.getElem_toArray, List.getElem_cons_succ, List.getElem_cons_zero, List.setIfInBounds_toArray, List.set_cons_zero, List.set_cons_succ])
                  refine wpAnyH_take (i := 19) (oi := _) (v := ?_) rfl (by kernel_rfl) (by kernel_rfl) (by kernel_rfl) (fun _ _ _ h => h) (Or.inl ⟨by rfl, ?_⟩) (by assumption) ?_
                  rotate_left 1
                  · intro w hSw
                    (first | (go_simp; done) | (go_simp; with_reducible rfl) | (go_simp; rw [if_neg (Nat.not_lt.2 (by assumption))]))
                  (try simp only [Act.put, List.getElem_toArray, List.getElem_cons_succ, List.getElem_cons_zero, List.setIfInBounds_toArray, List.set_cons_zero, List.set_cons_succ])
                  refine wpAnyH_take (i := 20) (oi := _) (v := ?_) rfl (by kernel_rfl) (by kernel_rfl) (by kernel_rfl) (fun _ _ _ h => h) (Or.inl ⟨by rfl, ?_⟩) (by assumption) ?_
                  rotate_left 1
                  · intro w hSw
                    (first | (go_simp; done) | (go_simp; with_reducible rfl) | (go_simp; rw [if_neg (Nat.not_lt.2 (by assumption))]))
                  (try simp only [Act.put, List.getElem_toArray, List.getElem_cons_succ, List.getElem_cons_zero, List.setIfInBounds_toArray, List.set_cons_zero, List.set_cons_succ])
                  refine wpAnyH_done (by kernel_rfl) ?_ _
                  go_wp2
                  go_roundw
                  case rel => exact HFI.out _ hh43.bel
                  case measure => simp [intOf]; omega
                exact AllReadyH.nil
              exact AllReadyH.nil
            refine AllReadyH.cons (o := _) rfl (fun K hK => ?_) ?_
            · go_simp
              refine hK.out _ _ (hh33.step (al1 _ _)) (fun hh44a => ?_)
              clear hK K
              (try simp only [Act.put, List.getElem_toArray, List.getElem_cons_succ, List.getElem_cons_zero, List.setIfInBounds_toArray, List.set_cons_zero, List.set_cons_succ])
              have hh44 := hh44a.add (heap_alloc_new V33 (.cells #[.string ⟨#[]⟩, .string ⟨#[10]⟩, .string ⟨#[32, 10]⟩, .string ⟨#[35, 10]⟩] 9))
              clear hh44a
              generalize V33.alloc (.cells #[.string ⟨#[]⟩, .string ⟨#[10]⟩, .string ⟨#[32, 10]⟩, .string ⟨#[35, 10]⟩] 9) = V44 at hh44 ⊢
              refine wpAnyH_sub (R := SB w9 [(V33.heap.size, .cells #[.string ⟨#[]⟩, .string ⟨#[10]⟩, .string ⟨#[32, 10]⟩, .string ⟨#[35, 10]⟩] 9 (0, 0)), (V0.heap.size, .cells #[.string ⟨#[]⟩, .string ⟨#[32, 35, 32, 121]⟩, .string ⟨#[9, 32]⟩, .string ⟨#[35, 122]⟩] 9 (0, 0))]) (fun _ h => h.sub) _ _ _ _ ?_
              refine wpAnyH_take (i := 17) (oi := _) (v := ?_) rfl (by kernel_rfl) (by kernel_rfl) (by kernel_rfl) (fun _ _ _ h => h) (Or.inl ⟨by rfl, ?_⟩) (by assumption) ?_
              rotate_left 1
              · intro w hSw
                (first | (go_simp; done) | (go_simp; with_reducible rfl) | (go_simp; rw [if_neg (Nat.not_lt.2 (by assumption))]))
              (try simp only [Act.put, List.getElem_toArray, List.getElem_cons_succ, List.getElem_cons_zero, List.setIfInBounds_toArray, List.set_cons_zero, List.set_cons_succ])
              refine wpAnyH_take (i := 18) (oi := _) (v := ?_) rfl (by kernel_rfl) (by kernel_rfl) (by kernel_rfl) (fun _ _ _ h => h) (Or.inl ⟨by rfl, ?_⟩) (by assumption) ?_
              rotate_left 1
              · intro w hSw
                have cq : w.cell? ⟨V33.heap.size, kk, none⟩ = some (.string (str xC)) := (hSw.cell (g := V33.heap.size) (vs := #[.string ⟨#[]⟩, .string ⟨#[10]⟩, .string ⟨#[32, 10]⟩, .string ⟨#[35, 10]⟩]) (t := 9) (.head _) kk).trans HrC.out
                (first | (go_simp; done) | (go_simp; with_reducible rfl) | (go_simp; rw [if_neg (Nat.not_lt.2 (by assumption))]))
              (try simp only [Act.put, List.getElem_toArray, List.getElem_cons_succ, List.getElem_cons_zero, List.setIfInBounds_toArray, List.set_cons_zero, List.set_cons_succ])
              refine wpAnyH_ready (rs := [1, 7]) (by kernel_rfl) (by simp) ?_
              refine AllReadyH.cons (o := _) rfl (fun K hK => ?_) ?_
              · go_simp
                refine hK.out _ _ (hh44.step (al1 _ _)) (fun hh45a => ?_)
                clear hK K
                (try simp only [Act.put, List.getElem_toArray, List.getElem_cons_succ, List.getElem_cons_zero, List.setIfInBounds_toArray, List.set_cons_zero, List.set_cons_succ])
                have hh45 := hh45a.add (heap_alloc_new V44 (.cells #[.string ⟨#[]⟩, .string ⟨#[32]⟩, .string ⟨#[9]⟩, .string ⟨#[10, 35, 120, 10]⟩] 9))
                clear hh45a
                generalize V44.alloc (.cells #[.string ⟨#[]⟩, .string ⟨#[32]⟩, .string ⟨#[9]⟩, .string ⟨#[10, 35, 120, 10]⟩] 9) = V45 at hh45 ⊢
                refine wpAnyH_sub (R := SB w9 [(V44.heap.size, .cells #[.string ⟨#[]⟩, .string ⟨#[32]⟩, .string ⟨#[9]⟩, .string ⟨#[10, 35, 120, 10]⟩] 9 (0, 0)), (V33.heap.size, .cells #[.string ⟨#[]⟩, .string ⟨#[10]⟩, .string ⟨#[32, 10]⟩, .string ⟨#[35, 10]⟩] 9 (0, 0)), (V0.heap.size, .cells #[.string ⟨#[]⟩, .string ⟨#[32, 35, 32, 121]⟩, .string ⟨#[9, 32]⟩, .string ⟨#[35, 122]⟩] 9 (0, 0))]) (fun _ h => h.sub) _ _ _ _ ?_
                refine wpAnyH_take (i := 3) (oi := _) (v := ?_) rfl (by kernel_rfl) (by kernel_rfl) (by kernel_rfl) (fun _ _ _ h => h) (Or.inl ⟨by rfl, ?_⟩) (by assumption) ?_
                rotate_left 1
                · intro w hSw
                  (first | (go_simp; done) | (go_simp; with_reducible rfl) | (go_simp; rw [if_neg (Nat.not_lt.2 (by assumption))]))
                (try simp only [Act.put, List.getElem_toArray, List.getElem_cons_succ, List.getElem_cons_zero, List.setIfInBounds_toArray, List.set_cons_zero, List.set_cons_succ])
                refine wpAnyH_take (i := 4) (oi := _) (v := ?_) rfl (by kernel_rfl) (by kernel_rfl) (by kernel_rfl) (fun _ _ _ h => h) (Or.inl ⟨by rfl, ?_⟩) (by assumption) ?_
                rotate_left 1
                · intro w hSw
                  have cq : w.cell? ⟨V44.heap.size, kk, none⟩ = some (.string (str xA)) := (hSw.cell (g := V44.heap.size) (vs := #[.string ⟨#[]⟩, .string ⟨#[32]⟩, .string ⟨#[9]⟩, .string ⟨#[10, 35, 120, 10]⟩]) (t := 9) (.head _) kk).trans HrA.out
                  (first | (go_simp; done) | (go_simp; with_reducible rfl) | (go_simp; rw [if_neg (Nat.not_lt.2 (by assumption))]))
                (try simp only [Act.put, List.getElem_toArray, List.getElem_cons_succ, List.getElem_cons_zero, List.setIfInBounds_toArray, List.set_cons_zero, List.set_cons_succ])
                refine wpAnyH_take (i := 5) (oi := _) (v := ?_) rfl (by kernel_rfl) (by kernel_rfl) (by kernel_rfl) (fun _ _ _ h => h) (Or.inl ⟨by rfl, ?_⟩) (by assumption) ?_
                rotate_left 1
                · intro w hSw
                  (first | (go_simp; done) | (go_simp; with_reducible rfl) | (go_simp; rw [if_neg (Nat.not_lt.2 (by assumption))]))
                (try simp only [Act.put, List.getElem_toArray, List.getElem_cons_succ, List.getElem_cons_zero, List.setIfInBounds_toArray, List.set_cons_zero, List.set_cons_succ])
                refine wpAnyH_ready (rs := [7]) (by kernel_rfl) (by simp) ?_
                refine AllReadyH.cons (o := _) rfl (fun K hK => ?_) ?_
                · go_simp
                  (go_at_call 10)
                  ((with_reducible refine (HLN.out _ hh45.bel).mono ?_))
                  rintro e V46 ⟨rfl, hbl⟩
                  refine hK.out _ _ (hh45.step hbl) (fun hh46 => ?_)
                  clear hK K hbl
                  (try simp only [Act.put, List.getElem_toArray, List.getElem_cons_succ, List.getElem_cons_zero, List.setIfInBounds_toArray, List.set_cons_zero, List.set_cons_succ])
                  refine wpAnyH_take (i := 8) (oi := _) (v := ?_) rfl (by kernel_rfl) (by kernel_rfl) (by kernel_rfl) (fun _ _ _ h => h) (Or.inl ⟨by rfl, ?_⟩) (by assumption) ?_
                  rotate_left 1
                  · intro w hSw
                    (first | (go_simp; done) | (go_simp; with_reducible rfl) | (go_simp; rw [if_neg (Nat.not_lt.2 (by assumption))]))
                  (try simp only [Act.put, List.getElem_toArray, List.getElem_cons_succ, List.getElem_cons_zero, List.setIfInBounds_toArray, List.set_cons_zero, List.set_cons_succ])
                  refine wpAnyH_take (i := 13) (oi := _) (v := ?_) rfl (by kernel_rfl) (by kernel_rfl) (by kernel_rfl) (fun _ _ _ h => h) (Or.inl ⟨by rfl, ?_⟩) (by assumption) ?_
                  rotate_left 1
                  · intro w hSw
                    (first | (go_simp; done) | (go_simp; with_reducible rfl) | (go_simp; rw [if_neg (Nat.not_lt.2 (by assumption))]))
                  (try simp only [Act.put, List.getElem_toArray, List.getElem_cons_succ, List.getElem_cons_zero, List.setIfInBounds_toArray, List.set_cons_zero, List.set_cons_succ])
                  refine wpAnyH_take (i := 14) (oi := _) (v := ?_) rfl (by kernel_rfl) (by kernel_rfl) (by kernel_rfl) (fun _ _ _ h => h) (Or.inl ⟨by rfl, ?_⟩) (by assumption) ?_
                  rotate_left 1
                  · intro w hSw
                    (first | (go_simp; done) | (go_simp; with_reducible rfl) | (go_simp; rw [if_neg (Nat.not_lt.2 (by assumption))]))
                  (try simp only [Act.put, List.getElem_toArray, List.getElem_cons_succ, List.getElem_cons_zero, List.setIfInBounds_toArray, List.set_cons_zero, List.set_cons_succ])
                  refine wpAnyH_take (i := 19) (oi := _) (v := ?_) rfl (by kernel_rfl) (by kernel_rfl) (by kernel_rfl) (fun _ _ _ h => h) (Or.inl ⟨by rfl, ?_⟩) (by assumption) ?_
                  rotate_left 1
                  · intro w hSw
                    (first | (go_simp; done) | (go_simp; with_reducible rfl) | (go_simp; rw [if_neg (Nat.not_lt.2 (by assumption))]))
                  (try simp only [Act.put, List.getElem_toArray, List.getElem_cons_succ, List.getElem_cons_zero, List.setIfInBounds_toArray, List.set_cons_zero, List.set_cons_succ])
                  refine wpAnyH_take (i := 20) (oi := _) (v := ?_) rfl (by kernel_rfl) (by kernel_rfl) (by kernel_rfl) (fun _ _ _ h => h) (Or.inl ⟨by rfl, ?_⟩) (by assumption) ?_
                  rotate_left 1
                  · intro w hSw
                    (first | (go_simp; done) | (go_simp; with_reducible rfl) | (go_simp; rw [if_neg (Nat.not_lt.2 (by assumption))]))
                  (try simp only [Act.put, List.getElem_toArray, List.getElem_cons_succ, List.getElem_cons_zero, List.setIfInBounds_toArray, List.set_cons_zero, List.set_cons_succ])
                  refine wpAnyH_done (by kernel_rfl) ?_ _
                  go_wp2
                  go_roundw
                  case rel => exact HFI.out _ hh46.bel
                  case measure => simp [intOf]; omega
                exact AllReadyH.nil
              refine AllReadyH.cons (o := _) rfl (fun K hK => ?_) ?_
              · go_simp
                (go_at_call 10)
                ((with_reducible refine (HLN.out _ hh44.bel).mono ?_))
                rintro e V47 ⟨rfl, hbl⟩
                refine hK.out _ _ (hh44.step hbl) (fun hh47 => ?_)
                clear hK K hbl
                (try simp only [Act.put, List.getElem_toArray, List.getElem_cons_succ, List.getElem_cons_zero, List.setIfInBounds_toArray, List.set_cons_zero, List.set_cons_succ])
                refine wpAnyH_ready (rs := [1]) (by kernel_rfl) (by simp) ?_
                refine AllReadyH.cons (o := _) rfl (fun K hK => ?_) ?_
                · go_simp
                  refine hK.out _ _ (hh47.step (al1 _ _)) (fun hh48a => ?_)
                  clear hK K
                  (try simp only [Act.put, List.getElem_toArray, List.getElem_cons_succ, List.getElem_cons_zero, List.setIfInBounds_toArray, List.set_cons_zero, List.set_cons_succ])
                  have hh48 := hh48a.add (heap_alloc_new V47 (.cells #[.string ⟨#[]⟩, .string ⟨#[32]⟩, .string ⟨#[9]⟩, .string ⟨#[10, 35, 120, 10]⟩] 9))
                  clear hh48a
                  generalize V47.alloc (.cells #[.string ⟨#[]⟩, .string ⟨#[32]⟩, .string ⟨#[9]⟩, .string ⟨#[10, 35, 120, 10]⟩] 9) = V48 at hh48 ⊢
                  refine wpAnyH_sub (R := SB w9 [(V47.heap.size, .cells #[.string ⟨#[]⟩, .string ⟨#[32]⟩, .string ⟨#[9]⟩, .string ⟨#[10, 35, 120, 10]⟩] 9 (0, 0)), (V33.heap.size, .cells #[.string ⟨#[]⟩, .string ⟨#[10]⟩, .string ⟨#[32, 10]⟩, .string ⟨#[35, 10]⟩] 9 (0, 0)), (V0.heap.size, .cells #[.string ⟨#[]⟩, .string ⟨#[32, 35, 32, 121]⟩, .string ⟨#[9, 32]⟩, .string ⟨#[35, 122]⟩] 9 (0, 0))]) (fun _ h => h.sub) _ _ _ _ ?_
                  refine wpAnyH_take (i := 3) (oi := _) (v := ?_) rfl (by kernel_rfl) (by kernel_rfl) (by kernel_rfl) (fun _ _ _ h => h) (Or.inl ⟨by rfl, ?_⟩) (by assumption) ?_
                  rotate_left 1
                  · intro w hSw
                    (first | (go_simp; done) | (go_simp; with_reducible rfl) | (go_simp; rw [if_neg (Nat.not_lt.2 (by assumption))]))
                  (try simp only [Act.put, List.getElem_toArray, List.getElem_cons_succ, List.getElem_cons_zero, List.setIfInBounds_toArray, List.set_cons_zero, List.set_cons_succ])
                  refine wpAnyH_take (i := 4) (oi := _) (v := ?_) rfl (by kernel_rfl) (by kernel_rfl) (by kernel_rfl) (fun _ _ _ h => h) (Or.inl ⟨by rfl, ?_⟩) (by assumption) ?_
                  rotate_left 1
                  · intro w hSw
                    have cq : w.cell? ⟨V47.heap.size, kk, none⟩ = some (.string (str xA)) := (hSw.cell (g := V47.heap.size) (vs := #[.string ⟨#[]⟩, .string ⟨#[32]⟩, .string ⟨#[9]⟩, .string ⟨#[10, 35, 120, 10]⟩]) (t := 9) (.head _) kk).trans HrA.out
                    (first | (go_simp; done) | (go_simp; with_reducible rfl) | (go_simp; rw [if_neg (Nat.not_lt.2 (by assumption))]))
                  (try simp only [Act.put, List.getElem_toArray, List.getElem_cons_succ, List.getElem_cons_zero, List.setIfInBounds_toArray, List.set_cons_zero, List.set_cons_succ])
                  refine wpAnyH_take (i := 5) (oi := _) (v := ?_) rfl (by kernel_rfl) (by kernel_rfl) (by kernel_rfl) (fun _ _ _ h => h) (Or.inl ⟨by rfl, ?_⟩) (by assumption) ?_
                  rotate_left 1
                  · intro w hSw
                    (first | (go_simp; done) | (go_simp; with_reducible rfl) | (go_simp; rw [if_neg (Nat.not_lt.2 (by assumption))]))
                  (try simp only [Act.put, List.getElem_toArray, List.getElem_cons_succ, List.getElem_cons_zero, List.setIfInBounds_toArray, List.set_cons_zero, List.set_cons_succ])
                  refine wpAnyH_take (i := 8) (oi := _) (v := ?_) rfl (by kernel_rfl) (by kernel_rfl) (by kernel_rfl) (fun _ _ _ h => h) (Or.inl ⟨by rfl, ?_⟩) (by assumption) ?_
                  rotate_left 1
                  · intro w hSw
                    (first | (go_simp; done) | (go_simp; with_reducible rfl) | (go_simp; rw [if_neg (Nat.not_lt.2 (by assumption))]))
                  (try simp only [Act.put, List.getElem_toArray, List.getElem_cons_succ, List.getElem_cons_zero, List.setIfInBounds_toArray, List.set_cons_zero, List.set_cons_succ])
                  refine wpAnyH_take (i := 13) (oi := _) (v := ?_) rfl (by kernel_rfl) (by kernel_rfl) (by kernel_rfl) (fun _ _ _ h => h) (Or.inl ⟨by rfl, ?_⟩) (by assumption) ?_
                  rotate_left 1
                  · intro w hSw
                    (first | (go_simp; done) | (go_simp; with_reducible rfl) | (go_simp; rw [if_neg (Nat.not_lt.2 (by assumption))]))
                  (try simp only [Act.put, List.getElem_toArray, List.getElem_cons_succ, List.getElem_cons_zero, List.setIfInBounds_toArray, List.set_cons_zero, List.set_cons_succ])
                  refine wpAnyH_take (i := 14) (oi := _) (v := ?_) rfl (by kernel_rfl) (by kernel_rfl) (by kernel_rfl) (fun _ _ _ h => h) (Or.inl ⟨by rfl, ?_⟩) (by assumption) ?_
                  rotate_left 1
                  · intro w hSw
                    (first | (go_simp; done) | (go_simp; with_reducible rfl) | (go_simp; rw [if_neg (Nat.not_lt.2 (by assumption))]))
                  (try simp only [Act.put, List.getElem_toArray, List.getElem_cons_succ, List.getElem_cons_zero, List.setIfInBounds_toArray, List.set_cons_zero, List.set_cons_succ])
                  refine wpAnyH_take (i := 19) (oi := _) (v := ?_) rfl (by kernel_rfl) (by kernel_rfl) (by kernel_rfl) (fun _ _ _ h => h) (Or.inl ⟨by rfl, ?_⟩) (by assumption) ?_
                  rotate_left 1
                  · intro w hSw
                    (first | (go_simp; done) | (go_simp; with_reducible rfl) | (go_simp; rw [if_neg (Nat.not_lt.2 (by assumption))]))
                  (try simp only [Act.put, List.getElem_toArray, List.getElem_cons_succ, List.getElem_cons_zero, List.setIfInBounds_toArray, List.set_cons_zero, List.set_cons_succ])
                  refine wpAnyH_take (i := 20) (oi := _) (v := ?_) rfl (by kernel_rfl) (by kernel_rfl) (by kernel_rfl) (fun _ _ _ h => h) (Or.inl ⟨by rfl, ?_⟩) (by assumption) ?_
                  rotate_left 1
                  · intro w hSw
                    (first | (go_simp; done) | (go_simp; with_reducible rfl) | (go_simp; rw [if_neg (Nat.not_lt.2 (by assumption))]))
                  (try simp only [Act.put, List.getElem_toArray, List.getElem_cons_succ, List.getElem_cons_zero, List.setIfInBounds_toArray, List.set_cons_zero, List.set_cons_succ])
                  refine wpAnyH_done (by kernel_rfl) ?_ _
                  go_wp2
                  go_roundw
                  case rel => exact HFI.out _ hh48.bel
                  case measure => simp [intOf]; omega
                exact AllReadyH.nil
              exact AllReadyH.nil
            exact AllReadyH.nil
          refine AllReadyH.cons (o := _) rfl (fun K hK => ?_) ?_
          · go_simp
            refine hK.out _ _ (hh0.step (al1 _ _)) (fun hh49a => ?_)
            clear hK K
            (try simp only [Act.put, List.getElem_toArray, List.getElem_cons_succ, List.getElem_cons_zero, List.setIfInBounds_toArray, List.set_cons_zero, List.set_cons_succ])
            have hh49 := hh49a.add (heap_alloc_new V0 (.cells #[.string ⟨#[]⟩, .string ⟨#[10]⟩, .string ⟨#[32, 10]⟩, .string ⟨#[35, 10]⟩] 9))
            clear hh49a
            generalize V0.alloc (.cells #[.string ⟨#[]⟩, .string ⟨#[10]⟩, .string ⟨#[32, 10]⟩, .string ⟨#[35, 10]⟩] 9) = V49 at hh49 ⊢
            refine wpAnyH_sub (R := SB w9 [(V0.heap.size, .cells #[.string ⟨#[]⟩, .string ⟨#[10]⟩, .string ⟨#[32, 10]⟩, .string ⟨#[35, 10]⟩] 9 (0, 0))]) (fun _ h => h.sub) _ _ _ _ ?_
            refine wpAnyH_take (i := 17) (oi := _) (v := ?_) rfl (by kernel_rfl) (by kernel_rfl) (by kernel_rfl) (fun _ _ _ h => h) (Or.inl ⟨by rfl, ?_⟩) (by assumption) ?_
            rotate_left 1
            · intro w hSw
              (first | (go_simp; done) | (go_simp; with_reducible rfl) | (go_simp; rw [if_neg (Nat.not_lt.2 (by assumption))]))
            (try simp only [Act.put, List.getElem_toArray, List.getElem_cons_succ, List.getElem_cons_zero, List.setIfInBounds_toArray, List.set_cons_zero, List.set_cons_succ])
            refine wpAnyH_take (i := 18) (oi := _) (v := ?_) rfl (by kernel_rfl) (by kernel_rfl) (by kernel_rfl) (fun _ _ _ h => h) (Or.inl ⟨by rfl, ?_⟩) (by assumption) ?_
            rotate_left 1
            · intro w hSw
              have cq : w.cell? ⟨V0.heap.size, kk, none⟩ = some (.string (str xC)) := (hSw.cell (g := V0.heap.size) (vs := #[.string ⟨#[]⟩, .string ⟨#[10]⟩, .string ⟨#[32, 10]⟩, .string ⟨#[35, 10]⟩]) (t := 9) (.head _) kk).trans HrC.out
              (first | (go_simp; done) | (go_simp; with_reducible rfl) | (go_simp; rw [if_neg (Nat.not_lt.2 (by assumption))]))
            (try simp only [Act.put, List.getElem_toArray, List.getElem_cons_succ, List.getElem_cons_zero, List.setIfInBounds_toArray, List.set_cons_zero, List.set_cons_succ])
            refine wpAnyH_ready (rs := [1, 7, 9]) (by kernel_rfl) (by simp) ?_
            refine AllReadyH.cons (o := _) rfl (fun K hK => ?_) ?_
            · go_simp
              refine hK.out _ _ (hh49.step (al1 _ _)) (fun hh50a => ?_)
              clear hK K
              (try simp only [Act.put, List.getElem_toArray, List.getElem_cons_succ, List.getElem_cons_zero, List.setIfInBounds_toArray, List.set_cons_zero, List.set_cons_succ])
              have hh50 := hh50a.add (heap_alloc_new V49 (.cells #[.string ⟨#[]⟩, .string ⟨#[32]⟩, .string ⟨#[9]⟩, .string ⟨#[10, 35, 120, 10]⟩] 9))
              clear hh50a
              generalize V49.alloc (.cells #[.string ⟨#[]⟩, .string ⟨#[32]⟩, .string ⟨#[9]⟩, .string ⟨#[10, 35, 120, 10]⟩] 9) = V50 at hh50 ⊢
              refine wpAnyH_sub (R := SB w9 [(V49.heap.size, .cells #[.string ⟨#[]⟩, .string ⟨#[32]⟩, .string ⟨#[9]⟩, .string ⟨#[10, 35, 120, 10]⟩] 9 (0, 0)), (V0.heap.size, .cells #[.string ⟨#[]⟩, .string ⟨#[10]⟩, .string ⟨#[32, 10]⟩, .string ⟨#[35, 10]⟩] 9 (0, 0))]) (fun _ h => h.sub) _ _ _ _ ?_
              refine wpAnyH_take (i := 3) (oi := _) (v := ?_) rfl (by kernel_rfl) (by kernel_rfl) (by kernel_rfl) (fun _ _ _ h => h) (Or.inl ⟨by rfl, ?_⟩) (by assumption) ?_
              rotate_left 1
              · intro w hSw
                (first | (go_simp; done) | (go_simp; with_reducible rfl) | (go_simp; rw [if_neg (Nat.not_lt.2 (by assumption))]))
              (try simp only [Act.put, List.getElem_toArray, List.getElem_cons_succ, List.getElem_cons_zero, List.setIfInBounds_toArray, List.set_cons_zero, List.set_cons_succ])
              refine wpAnyH_take (i := 4) (oi := _) (v := ?_) rfl (by kernel_rfl) (by kernel_rfl) (by kernel_rfl) (fun _ _ _ h => h) (Or.inl ⟨by rfl, ?_⟩) (by assumption) ?_
              rotate_left 1
              · intro w hSw
                have cq : w.cell? ⟨V49.heap.size, kk, none⟩ = some (.string (str xA)) := (hSw.cell (g := V49.heap.size) (vs := #[.string ⟨#[]⟩, .string ⟨#[32]⟩, .string ⟨#[9]⟩, .string ⟨#[10, 35, 120, 10]⟩]) (t := 9) (.head _) kk).trans HrA.out
                (first | (go_simp; done) | (go_simp; with_reducible rfl) | (go_simp; rw [if_neg (Nat.not_lt.2 (by assumption))]))
              (try simp only [Act.put, List.getElem_toArray, List.getElem_cons_succ, List.getElem_cons_zero, List.setIfInBounds_toArray, List.set_cons_zero, List.set_cons_succ])
              refine wpAnyH_take (i := 5) (oi := _) (v := ?_) rfl (by kernel_rfl) (by kernel_rfl) (by kernel_rfl) (fun _ _ _ h => h) (Or.inl ⟨by rfl, ?_⟩) (by assumption) ?_
              rotate_left 1
              · intro w hSw
                (first | (go_simp; done) | (go_simp; with_reducible rfl) | (go_simp; rw [if_neg (Nat.not_lt.2 (by assumption))]))
              (try simp only [Act.put, List.getElem_toArray, List.getElem_cons_succ, List.getElem_cons_zero, List.setIfInBounds_toArray, List.set_cons_zero, List.set_cons_succ])
              refine wpAnyH_ready (rs := [7, 9]) (by kernel_rfl) (by simp) ?_
              refine AllReadyH.cons (o := _) rfl (fun K hK => ?_) ?_
              · go_simp
                (go_at_call 10)
                ((with_reducible refine (HLN.out _ hh50.bel).mono ?_))
                rintro e V51 ⟨rfl, hbl⟩
                refine hK.out _ _ (hh50.step hbl) (fun hh51 => ?_)
                clear hK K hbl
                (try simp only [Act.put, List.getElem_toArray, List.getElem_cons_succ, List.getElem_cons_zero, List.setIfInBounds_toArray, List.set_cons_zero, List.set_cons_succ])
                refine wpAnyH_take (i := 8) (oi := _) (v := ?_) rfl (by kernel_rfl) (by kernel_rfl) (by kernel_rfl) (fun _ _ _ h => h) (Or.inl ⟨by rfl, ?_⟩) (by assumption) ?_
                rotate_left 1
                · intro w hSw
                  (first | (go_simp; done) | (go_simp; with_reducible rfl) | (go_simp; rw [if_neg (Nat.not_lt.2 (by assumption))]))
                (try simp only [Act.put, List.getElem_toArray, List.getElem_cons_succ, List.getElem_cons_zero, List.setIfInBounds_toArray, List.set_cons_zero, List.set_cons_succ])
                refine wpAnyH_ready (rs := [9]) (by kernel_rfl) (by simp) ?_
                refine AllReadyH.cons (o := _) rfl (fun K hK => ?_) ?_
                · go_simp
                  refine hK.out _ _ (hh51.step (al1 _ _)) (fun hh52a => ?_)
                  clear hK K
                  (try simp only [Act.put, List.getElem_toArray, List.getElem_cons_succ, List.getElem_cons_zero, List.setIfInBounds_toArray, List.set_cons_zero, List.set_cons_succ])
                  have hh52 := hh52a.add (heap_alloc_new V51 (.cells #[.string ⟨#[]⟩, .string ⟨#[32, 35, 32, 121]⟩, .string ⟨#[9, 32]⟩, .string ⟨#[35, 122]⟩] 9))
                  clear hh52a
                  generalize V51.alloc (.cells #[.string ⟨#[]⟩, .string ⟨#[32, 35, 32, 121]⟩, .string ⟨#[9, 32]⟩, .string ⟨#[35, 122]⟩] 9) = V52 at hh52 ⊢
                  refine wpAnyH_sub (R := SB w9 [(V51.heap.size, .cells #[.string ⟨#[]⟩, .string ⟨#[32, 35, 32, 121]⟩, .string ⟨#[9, 32]⟩, .string ⟨#[35, 122]⟩] 9 (0, 0)), (V49.heap.size, .cells #[.string ⟨#[]⟩, .string ⟨#[32]⟩, .string ⟨#[9]⟩, .string ⟨#[10, 35, 120, 10]⟩] 9 (0, 0)), (V0.heap.size, .cells #[.string ⟨#[]⟩, .string ⟨#[10]⟩, .string ⟨#[32, 10]⟩, .string ⟨#[35, 10]⟩] 9 (0, 0))]) (fun _ h => h.sub) _ _ _ _ ?_
                  refine wpAnyH_take (i := 11) (oi := _) (v := ?_) rfl (by kernel_rfl) (by kernel_rfl) (by kernel_rfl) (fun _ _ _ h => h) (Or.inl ⟨by rfl, ?_⟩) (by assumption) ?_
                  rotate_left 1
                  · intro w hSw
                    (first | (go_simp; done) | (go_simp; with_reducible rfl) | (go_simp; rw [if_neg (Nat.not_lt.2 (by assumption))]))
                  (try simp only [Act.put, List.getElem_toArray, List.getElem_cons_succ, List.getElem_cons_zero, List.setIfInBounds_toArray, List.set_cons_zero, List.set_cons_succ])
                  refine wpAnyH_take (i := 12) (oi := _) (v := ?_) rfl (by kernel_rfl) (by kernel_rfl) (by kernel_rfl) (fun _ _ _ h => h) (Or.inl ⟨by rfl, ?_⟩) (by assumption) ?_
                  rotate_left 1
                  · intro w hSw
                    have cq : w.cell? ⟨V51.heap.size, kk, none⟩ = some (.string (str xB)) := (hSw.cell (g := V51.heap.size) (vs := #[.string ⟨#[]⟩, .string ⟨#[32, 35, 32, 121]⟩, .string ⟨#[9, 32]⟩, .string ⟨#[35, 122]⟩]) (t := 9) (.head _) kk).trans HrB.out
                    (first | (go_simp; done) | (go_simp; with_reducible rfl) | (go_simp; rw [if_neg (Nat.not_lt.2 (by assumption))]))
                  (try simp only [Act.put, List.getElem_toArray, List.getElem_cons_succ, List.getElem_cons_zero, List.setIfInBounds_toArray, List.set_cons_zero, List.set_cons_succ])
                  refine wpAnyH_take (i := 13) (oi := _) (v := ?_) rfl (by kernel_rfl) (by kernel_rfl) (by kernel_rfl) (fun _ _ _ h => h) (Or.inl ⟨by rfl, ?_⟩) (by assumption) ?_
                  rotate_left 1
                  · intro w hSw
                    (first | (go_simp; done) | (go_simp; with_reducible rfl) | (go_simp; rw [if_neg (Nat.not_lt.2 (by assumption))]))
                  (try simp only [Act.put, List.getElem_toArray, List.getElem_cons_succ, List.getElem_cons_zero, List.setIfInBounds_toArray, List.set_cons_zero, List.set_cons_succ])
                  refine wpAnyH_take (i := 14) (oi := _) (v := ?_) rfl (by kernel_rfl) (by kernel_rfl) (by kernel_rfl) (fun _ _ _ h => h) (Or.inl ⟨by rfl, ?_⟩) (by assumption) ?_
                  rotate_left 1
                  · intro w hSw
                    (first | (go_simp; done) | (go_simp; with_reducible rfl) | (go_simp; rw [if_neg (Nat.not_lt.2 (by assumption))]))
                  (try simp only [Act.put, List.getElem_toArray, List.getElem_cons_succ, List.getElem_cons_zero, List.setIfInBounds_toArray, List.set_cons_zero, List.set_cons_succ])
                  refine wpAnyH_take (i := 19) (oi := _) (v := ?_) rfl (by kernel_rfl) (by kernel_rfl) (by kernel_rfl) (fun _ _ _ h => h) (Or.inl ⟨by rfl, ?_⟩) (by assumption) ?_
                  rotate_left 1
                  · intro w hSw
                    (first | (go_simp; done) | (go_simp; with_reducible rfl) | (go_simp; rw [if_neg (Nat.not_lt.2 (by assumption))]))
                  (try simp only [Act.put, List.getElem_toArray, List.getElem_cons_succ, List.getElem_cons_zero, List.setIfInBounds_toArray, List.set_cons_zero, List.set_cons_succ])
                  refine wpAnyH_take (i := 20) (oi := _) (v := ?_) rfl (by kernel_rfl) (by kernel_rfl) (by kernel_rfl) (fun _ _ _ h => h) (Or.inl ⟨by rfl, ?_⟩) (by assumption) ?_
                  rotate_left 1
                  · intro w hSw
                    (first | (go_simp; done) | (go_simp; with_reducible rfl) | (go_simp; rw [if_neg (Nat.not_lt.2 (by assumption))]))
                  (try simp only [Act.put, List.getElem_toArray, List.getElem_cons_succ, List.getElem_cons_zero, List.setIfInBounds_toArray, List.set_cons_zero, List.set_cons_succ])
                  refine wpAnyH_done (by kernel_rfl) ?_ _
                  go_wp2
                  go_roundw
                  case rel => exact HFI.out _ hh52.bel
                  case measure => simp [intOf]; omega
                exact AllReadyH.nil
              refine AllReadyH.cons (o := _) rfl (fun K hK => ?_) ?_
              · go_simp
                refine hK.out _ _ (hh50.step (al1 _ _)) (fun hh53a => ?_)
                clear hK K
                (try simp only [Act.put, List.getElem_toArray, List.getElem_cons_succ, List.getElem_cons_zero, List.setIfInBounds_toArray, List.set_cons_zero, List.set_cons_succ])
                have hh53 := hh53a.add (heap_alloc_new V50 (.cells #[.string ⟨#[]⟩, .string ⟨#[32, 35, 32, 121]⟩, .string ⟨#[9, 32]⟩, .string ⟨#[35, 122]⟩] 9))
                clear hh53a
                generalize V50.alloc (.cells #[.string ⟨#[]⟩, .string ⟨#[32, 35, 32, 121]⟩, .string ⟨#[9, 32]⟩, .string ⟨#[35, 122]⟩] 9) = V53 at hh53 ⊢
                refine wpAnyH_sub (R := SB w9 [(V50.heap.size, .cells #[.string ⟨#[]⟩, .string ⟨#[32, 35, 32, 121]⟩, .string ⟨#[9, 32]⟩, .string ⟨#[35, 122]⟩] 9 (0, 0)), (V49.heap.size, .cells #[.string ⟨#[]⟩, .string ⟨#[32]⟩, .string ⟨#[9]⟩, .string ⟨#[10, 35, 120, 10]⟩] 9 (0, 0)), (V0.heap.size, .cells #[.string ⟨#[]⟩, .string ⟨#[10]⟩, .string ⟨#[32, 10]⟩, .string ⟨#[35, 10]⟩] 9 (0, 0))]) (fun _ h => h.sub) _ _ _ _ ?_
                refine wpAnyH_take (i := 11) (oi := _) (v := ?_) rfl (by kernel_rfl) (by kernel_rfl) (by kernel_rfl) (fun _ _ _ h => h) (Or.inl ⟨by rfl, ?_⟩) (by assumption) ?_
                rotate_left 1
                · intro w hSw
                  (first | (go_simp; done) | (go_simp; with_reducible rfl) | (go_simp; rw [if_neg (Nat.not_lt.2 (by assumption))]))
                (try simp only [Act.put, List.getElem_toArray, List.getElem_cons_succ, List.getElem_cons_zero, List.setIfInBounds_toArray, List.set_cons_zero, List.set_cons_succ])
                refine wpAnyH_take (i := 12) (oi := _) (v := ?_) rfl (by kernel_rfl) (by kernel_rfl) (by kernel_rfl) (fun _ _ _ h => h) (Or.inl ⟨by rfl, ?_⟩) (by assumption) ?_
                rotate_left 1
                · intro w hSw
                  have cq : w.cell? ⟨V50.heap.size, kk, none⟩ = some (.string (str xB)) := (hSw.cell (g := V50.heap.size) (vs := #[.string ⟨#[]⟩, .string ⟨#[32, 35, 32, 121]⟩, .string ⟨#[9, 32]⟩, .string ⟨#[35, 122]⟩]) (t := 9) (.head _) kk).trans HrB.out
                  (first | (go_simp; done) | (go_simp; with_reducible rfl) | (go_simp; rw [if_neg (Nat.not_lt.2 (by assumption))]))
                (try simp only [Act.put, List.getElem_toArray, List.getElem_cons_succ, List.getElem_cons_zero, List.setIfInBounds_toArray, List.set_cons_zero, List.set_cons_succ])
                refine wpAnyH_ready (rs := [7]) (by kernel_rfl) (by simp) ?_
                refine AllReadyH.cons (o := _) rfl (fun K hK => ?_) ?_
                · go_simp
                  (go_at_call 10)
                  ((with_reducible refine (HLN.out _ hh53.bel).mono ?_))
                  rintro e V54 ⟨rfl, hbl⟩
                  refine hK.out _ _ (hh53.step hbl) (fun hh54 => ?_)
                  clear hK K hbl
                  (try simp only [Act.put, List.getElem_toArray, List.getElem_cons_succ, List.getElem_cons_zero, List.setIfInBounds_toArray, List.set_cons_zero, List.set_cons_succ])
                  refine wpAnyH_take (i := 8) (oi := _) (v := ?_) rfl (by kernel_rfl) (by kernel_rfl) (by kernel_rfl) (fun _ _ _ h => h) (Or.inl ⟨by rfl, ?_⟩) (by assumption) ?_
                  rotate_left 1
                  · intro w hSw
                    (first | (go_simp; done) | (go_simp; with_reducible rfl) | (go_simp; rw [if_neg (Nat.not_lt.2 (by assumption))]))
                  (try simp only [Act.put, List.getElem_toArray, List.getElem_cons_succ, List.getElem_cons_zero, List.setIfInBounds_toArray, List.set_cons_zero, List.set_cons_succ])
                  refine wpAnyH_take (i := 13) (oi := _) (v := ?_) rfl (by kernel_rfl) (by kernel_rfl) (by kernel_rfl) (fun _ _ _ h => h) (Or.inl ⟨by rfl, ?_⟩) (by assumption) ?_
                  rotate_left 1
                  · intro w hSw
                    (first | (go_simp; done) | (go_simp; with_reducible rfl) | (go_simp; rw [if_neg (Nat.not_lt.2 (by assumption))]))
                  (try simp only [Act.put, List.getElem_toArray, List.getElem_cons_succ, List.getElem_cons_zero, List.setIfInBounds_toArray, List.set_cons_zero, List.set_cons_succ])
                  refine wpAnyH_take (i := 14) (oi := _) (v := ?_) rfl (by kernel_rfl) (by kernel_rfl) (by kernel_rfl) (fun _ _ _ h => h) (Or.inl ⟨by rfl, ?_⟩) (by assumption) ?_
                  rotate_left 1
                  · intro w hSw
                    (first | (go_simp; done) | (go_simp; with_reducible rfl) | (go_simp; rw [if_neg (Nat.not_lt.2 (by assumption))]))
                  (try simp only [Act.put, List.getElem_toArray, List.getElem_cons_succ, List.getElem_cons_zero, List.setIfInBounds_toArray, List.set_cons_zero, List.set_cons_succ])
                  refine wpAnyH_take (i := 19) (oi := _) (v := ?_) rfl (by kernel_rfl) (by kernel_rfl) (by kernel_rfl) (fun _ _ _ h => h) (Or.inl ⟨by rfl, ?_⟩) (by assumption) ?_
                  rotate_left 1
                  · intro w hSw
                    (first | (go_simp; done) | (go_simp; with_reducible rfl) | (go_simp; rw [if_neg (Nat.not_lt.2 (by assumption))]))
                  (try simp only [Act.put, List.getElem_toArray, List.getElem_cons_succ, List.getElem_cons_zero, List.setIfInBounds_toArray, List.set_cons_zero, List.set_cons_succ])
                  refine wpAnyH_take (i := 20) (oi := _) (v := ?_) rfl (by kernel_rfl) (by kernel_rfl) (by kernel_rfl) (fun _ _ _ h => h) (Or.inl ⟨by rfl, ?_⟩) (by assumption) ?_
                  rotate_left 1
                  · intro w hSw
                    (first | (go_simp; done) | (go_simp; with_reducible rfl) | (go_simp; rw [if_neg (Nat.not_lt.2 (by assumption))]))
                  (try simp only [Act.put, List.getElem_toArray, List.getElem_cons_succ, List.getElem_cons_zero, List.setIfInBounds_toArray, List.set_cons_zero, List.set_cons_succ])
                  refine wpAnyH_done (by kernel_rfl) ?_ _
                  go_wp2
                  go_roundw
                  case rel => exact HFI.out _ hh54.bel
                  case measure => simp [intOf]; omega
                exact AllReadyH.nil
              exact AllReadyH.nil
            refine AllReadyH.cons (o := _) rfl (fun K hK => ?_) ?_
            · go_simp
              (go_at_call 10)
              ((with_reducible refine (HLN.out _ hh49.bel).mono ?_))
              rintro e V55 ⟨rfl, hbl⟩
              refine hK.out _ _ (hh49.step hbl) (fun hh55 => ?_)
              clear hK K hbl
              (try simp only [Act.put, List.getElem_toArray, List.getElem_cons_succ, List.getElem_cons_zero, List.setIfInBounds_toArray, List.set_cons_zero, List.set_cons_succ])
              refine wpAnyH_ready (rs := [1, 9]) (by kernel_rfl) (by simp) ?_
              refine AllReadyH.cons (o := _) rfl (fun K hK => ?_) ?_
              · go_simp
                refine hK.out _ _ (hh55.step (al1 _ _)) (fun hh56a => ?_)
                clear hK K
                (try simp only [Act.put, List.getElem_toArray, List.getElem_cons_succ, List.getElem_cons_zero, List.setIfInBounds_toArray, List.set_cons_zero, List.set_cons_succ])
                have hh56 := hh56a.add (heap_alloc_new V55 (.cells #[.string ⟨#[]⟩, .string ⟨#[32]⟩, .string ⟨#[9]⟩, .string ⟨#[10, 35, 120, 10]⟩] 9))
                clear hh56a
                generalize V55.alloc (.cells #[.string ⟨#[]⟩, .string ⟨#[32]⟩, .string ⟨#[9]⟩, .string ⟨#[10, 35, 120, 10]⟩] 9) = V56 at hh56 ⊢
                refine wpAnyH_sub (R := SB w9 [(V55.heap.size, .cells #[.string ⟨#[]⟩, .string ⟨#[32]⟩, .string ⟨#[9]⟩, .string ⟨#[10, 35, 120, 10]⟩] 9 (0, 0)), (V0.heap.size, .cells #[.string ⟨#[]⟩, .string ⟨#[10]⟩, .string ⟨#[32, 10]⟩, .string ⟨#[35, 10]⟩] 9 (0, 0))]) (fun _ h => h.sub) _ _ _ _ ?_
                refine wpAnyH_take (i := 3) (oi := _) (v := ?_) rfl (by kernel_rfl) (by kernel_rfl) (by kernel_rfl) (fun _ _ _ h => h) (Or.inl ⟨by rfl, ?_⟩) (by assumption) ?_
                rotate_left 1
                · intro w hSw
                  (first | (go_simp; done) | (go_simp; with_reducible rfl) | (go_simp; rw [if_neg (Nat.not_lt.2 (by assumption))]))
                (try simp only [Act.put, List.getElem_toArray, List.getElem_cons_succ, List.getElem_cons_zero, List.setIfInBounds_toArray, List.set_cons_zero, List.set_cons_succ])
                refine wpAnyH_take (i := 4) (oi := _) (v := ?_) rfl (by kernel_rfl) (by kernel_rfl) (by kernel_rfl) (fun _ _ _ h => h) (Or.inl ⟨by rfl, ?_⟩) (by assumption) ?_
                rotate_left 1
                · intro w hSw
                  have cq : w.cell? ⟨V55.heap.size, kk, none⟩ = some (.string (str xA)) := (hSw.cell (g := V55.heap.size) (vs := #[.string ⟨#[]⟩, .string ⟨#[32]⟩, .string ⟨#[9]⟩, .string ⟨#[10, 35, 120, 10]⟩]) (t := 9) (.head _) kk).trans HrA.out
                  (first | (go_simp; done) | (go_simp; with_reducible rfl) | (go_simp; rw [if_neg (Nat.not_lt.2 (by assumption))]))
                (try simp only [Act.put, List.getElem_toArray, List.getElem_cons_succ, List.getElem_cons_zero, List.setIfInBounds_toArray, List.set_cons_zero, List.set_cons_succ])
                refine wpAnyH_take (i := 5) (oi := _) (v := ?_) rfl (by kernel_rfl) (by kernel_rfl) (by kernel_rfl) (fun _ _ _ h => h) (Or.inl ⟨by rfl, ?_⟩) (by assumption) ?_
                rotate_left 1
                · intro w hSw
                  (first | (go_simp; done) | (go_simp; with_reducible rfl) | (go_simp; rw [if_neg (Nat.not_lt.2 (by assumption))]))
                (try simp only [Act.put, List.getElem_toArray, List.getElem_cons_succ, List.getElem_cons_zero, List.setIfInBounds_toArray, List.set_cons_zero, List.set_cons_succ])
                refine wpAnyH_take (i := 8) (oi := _) (v := ?_) rfl (by kernel_rfl) (by kernel_rfl) (by kernel_rfl) (fun _ _ _ h => h) (Or.inl ⟨by rfl, ?_⟩) (by assumption) ?_
                rotate_left 1
                · intro w hSw
                  (first | (go_simp; done) | (go_simp; with_reducible rfl) | (go_simp; rw [if_neg (Nat.not_lt.2 (by assumption))]))
                (try simp only [Act.put, List.getElem_toArray, List.getElem_cons_succ, List.getElem_cons_zero, List.setIfInBounds_toArray, List.set_cons_zero, List.set_cons_succ])
                refine wpAnyH_ready (rs := [9]) (by kernel_rfl) (by simp) ?_
                refine AllReadyH.cons (o := _) rfl (fun K hK => ?_) ?_
                · go_simp
                  refine hK.out _ _ (hh56.step (al1 _ _)) (fun hh57a => ?_)
                  clear hK K
                  (try simp only [Act.put, List.getElem_toArray, List.getElem_cons_succ, List.getElem_cons_zero, List.setIfInBounds_toArray, List.set_cons_zero, List.set_cons_succ])
                  have hh57 := hh57a.add (heap_alloc_new V56 (.cells #[.string ⟨#[]⟩, .string ⟨#[32, 35, 32, 121]⟩, .string ⟨#[9, 32]⟩, .string ⟨#[35, 122]⟩] 9))
                  clear hh57a
                  generalize V56.alloc (.cells #[.string ⟨#[]⟩, .string ⟨#[32, 35, 32, 121]⟩, .string ⟨#[9, 32]⟩, .string ⟨#[35, 122]⟩] 9) = V57 at hh57 ⊢
                  refine wpAnyH_sub (R := SB w9 [(V56.heap.size, .cells #[.string ⟨#[]⟩, .string ⟨#[32, 35, 32, 121]⟩, .string ⟨#[9, 32]⟩, .string ⟨#[35, 122]⟩] 9 (0, 0)), (V55.heap.size, .cells #[.string ⟨#[]⟩, .string ⟨#[32]⟩, .string ⟨#[9]⟩, .string ⟨#[10, 35, 120, 10]⟩] 9 (0, 0)), (V0.heap.size, .cells #[.string ⟨#[]⟩, .string ⟨#[10]⟩, .string ⟨#[32, 10]⟩, .string ⟨#[35, 10]⟩] 9 (0, 0))]) (fun _ h => h.sub) _ _ _ _ ?_
                  refine wpAnyH_take (i := 11) (oi := _) (v := ?_) rfl (by kernel_rfl) (by kernel_rfl) (by kernel_rfl) (fun _ _ _ h => h) (Or.inl ⟨by rfl, ?_⟩) (by assumption) ?_
                  rotate_left 1
                  · intro w hSw
                    (first | (go_simp; done) | (go_simp; with_reducible rfl) | (go_simp; rw [if_neg (Nat.not_lt.2 (by assumption))]))
                  (try simp only [Act.put, List.getElem_toArray, List.getElem_cons_succ, List.getElem_cons_zero, List.setIfInBounds_toArray, List.set_cons_zero, List.set_cons_succ])
                  refine wpAnyH_take (i := 12) (oi := _) (v := ?_) rfl (by kernel_rfl) (by kernel_rfl) (by kernel_rfl) (fun _ _ _ h => h) (Or.inl ⟨by rfl, ?_⟩) (by assumption) ?_
                  rotate_left 1
                  · intro w hSw
                    have cq : w.cell? ⟨V56.heap.size, kk, none⟩ = some (.string (str xB)) := (hSw.cell (g := V56.heap.size) (vs := #[.string ⟨#[]⟩, .string ⟨#[32, 35, 32, 121]⟩, .string ⟨#[9, 32]⟩, .string ⟨#[35, 122]⟩]) (t := 9) (.head _) kk).trans HrB.out
                    (first | (go_simp; done) | (go_simp; with_reducible rfl) | (go_simp; rw [if_neg (Nat.not_lt.2 (by assumption))]))
                  (try simp only [Act.put, List.getElem_toArray, List.getElem_cons_succ, List.getElem_cons_zero, List.setIfInBounds_toArray, List.set_cons_zero, List.set_cons_succ])
                  refine wpAnyH_take (i := 13) (oi := _) (v := ?_) rfl (by kernel_rfl) (by kernel_rfl) (by kernel_rfl) (fun _ _ _ h => h) (Or.inl ⟨by rfl, ?_⟩) (by assumption) ?_
                  rotate_left 1
                  · intro w hSw
                    (first | (go_simp; done) | (go_simp; with_reducible rfl) | (go_simp; rw [if_neg (Nat.not_lt.2 (by assumption))]))
                  (try simp only [Act.put, List.getElem_toArray, List.getElem_cons_succ, List.getElem_cons_zero, List.setIfInBounds_toArray, List.set_cons_zero, List.set_cons_succ])
                  refine wpAnyH_take (i := 14) (oi := _) (v := ?_) rfl (by kernel_rfl) (by kernel_rfl) (by kernel_rfl) (fun _ _ _ h => h) (Or.inl ⟨by rfl, ?_⟩) (by assumption) ?_
                  rotate_left 1
                  · intro w hSw
                    (first | (go_simp; done) | (go_simp; with_reducible rfl) | (go_simp; rw [if_neg (Nat.not_lt.2 (by assumption))]))
                  (try simp only [Act.put, List.getElem_toArray, List.getElem_cons_succ, List.getElem_cons_zero, List.setIfInBounds_toArray, List.set_cons_zero, List.set_cons_succ])
                  refine wpAnyH_take (i := 19) (oi := _) (v := ?_) rfl (by kernel_rfl) (by kernel_rfl) (by kernel_rfl) (fun _ _ _ h => h) (Or.inl ⟨by rfl, ?_⟩) (by assumption) ?_
                  rotate_left 1
                  · intro w hSw
                    (first | (go_simp; done) | (go_simp; with_reducible rfl) | (go_simp; rw [if_neg (Nat.not_lt.2 (by assumption))]))
                  (try simp only [Act.put, List.getElem_toArray, List.getElem_cons_succ, List.getElem_cons_zero, List.setIfInBounds_toArray, List.set_cons_zero, List.set_cons_succ])
                  refine wpAnyH_take (i := 20) (oi := _) (v := ?_) rfl (by kernel_rfl) (by kernel_rfl) (by kernel_rfl) (fun _ _ _ h => h) (Or.inl ⟨by rfl, ?_⟩) (by assumption) ?_
                  rotate_left 1
                  · intro w hSw
                    (first | (go_simp; done) | (go_simp; with_reducible rfl) | (go_simp; rw [if_neg (Nat.not_lt.2 (by assumption))]))
                  (try simp only [Act.put, List.getElem_toArray, List.getElem_cons_succ, List.getElem_cons_zero, List.setIfInBounds_toArray, List.set_cons_zero, List.set_cons_succ])
                  refine wpAnyH_done (by kernel_rfl) ?_ _
                  go_wp2
                  go_roundw
                  case rel => exact HFI.out _ hh57.bel
                  case measure => simp [intOf]; omega
                exact AllReadyH.nil
              refine AllReadyH.cons (o := _) rfl (fun K hK => ?_) ?_
              · go_simp
                refine hK.out _ _ (hh55.step (al1 _ _)) (fun hh58a => ?_)
                clear hK K
                (try simp only [Act.put, List.getElem_toArray, List.getElem_cons_succ, List.getElem_cons_zero, List.setIfInBounds_toArray, List.set_cons_zero, List.set_cons_succ])
                have hh58 := hh58a.add (heap_alloc_new V55 (.cells #[.string ⟨#[]⟩, .string ⟨#[32, 35, 32, 121]⟩, .string ⟨#[9, 32]⟩, .string ⟨#[35, 122]⟩] 9))
                clear hh58a
                generalize V55.alloc (.cells #[.string ⟨#[]⟩, .string ⟨#[32, 35, 32, 121]⟩, .string ⟨#[9, 32]⟩, .string ⟨#[35, 122]⟩] 9) = V58 at hh58 ⊢
                refine wpAnyH_sub (R := SB w9 [(V55.heap.size, .cells #[.string ⟨#[]⟩, .string ⟨#[32, 35, 32, 121]⟩, .string ⟨#[9, 32]⟩, .string ⟨#[35, 122]⟩] 9 (0, 0)), (V0.heap.size, .cells #[.string ⟨#[]⟩, .string ⟨#[10]⟩, .string ⟨#[32, 10]⟩, .string ⟨#[35, 10]⟩] 9 (0, 0))]) (fun _ h => h.sub) _ _ _ _ ?_
                refine wpAnyH_take (i := 11) (oi := _) (v := ?_) rfl (by kernel_rfl) (by kernel_rfl) (by kernel_rfl) (fun _ _ _ h => h) (Or.inl ⟨by rfl, ?_⟩) (by assumption) ?_
                rotate_left 1
                · intro w hSw
                  (first | (go_simp; done) | (go_simp; with_reducible rfl) | (go_simp; rw [if_neg (Nat.not_lt.2 (by assumption))]))
                (try simp only [Act.put, List.getElem_toArray, List.getElem_cons_succ, List.getElem_cons_zero, List.setIfInBounds_toArray, List.set_cons_zero, List.set_cons_succ])
                refine wpAnyH_take (i := 12) (oi := _) (v := ?_) rfl (by kernel_rfl) (by kernel_rfl) (by kernel_rfl) (fun _ _ _ h => h) (Or.inl ⟨by rfl, ?_⟩) (by assumption) ?_
                rotate_left 1
                · intro w hSw
                  have cq : w.cell? ⟨V55.heap.size, kk, none⟩ = some (.string (str xB)) := (hSw.cell (g := V55.heap.size) (vs := #[.string ⟨#[]⟩, .string ⟨#[32, 35, 32, 121]⟩, .string ⟨#[9, 32]⟩, .string ⟨#[35, 122]⟩]) (t := 9) (.head _) kk).trans HrB.out
                  (first | (go_simp; done) | (go_simp; with_reducible rfl) | (go_simp; rw [if_neg (Nat.not_lt.2 (by assumption))]))
                (try simp only [Act.put, List.getElem_toArray, List.getElem_cons_succ, List.getElem_cons_zero, List.setIfInBounds_toArray, List.set_cons_zero, List.set_cons_succ])
                refine wpAnyH_ready (rs := [1]) (by kernel_rfl) (by simp) ?_
                refine AllReadyH.cons (o := _) rfl (fun K hK => ?_) ?_
                · go_simp
                  refine hK.out _ _ (hh58.step (al1 _ _)) (fun hh59a => ?_)
                  clear hK K
                  (try simp only [Act.put, List.getElem_toArray, List.getElem_cons_succ, List.getElem_cons_zero, List.setIfInBounds_toArray, List.set_cons_zero, List.set_cons_succ])
                  have hh59 := hh59a.add (heap_alloc_new V58 (.cells #[.string ⟨#[]⟩, .string ⟨#[32]⟩, .string ⟨#[9]⟩, .string ⟨#[10, 35, 120, 10]⟩] 9))
                  clear hh59a
                  generalize V58.alloc (.cells #[.string ⟨#[]⟩, .string ⟨#[32]⟩, .string ⟨#[9]⟩, .string ⟨#[10, 35, 120, 10]⟩] 9) = V59 at hh59 ⊢
                  refine wpAnyH_sub (R := SB w9 [(V58.heap.size, .cells #[.string ⟨#[]⟩, .string ⟨#[32]⟩, .string ⟨#[9]⟩, .string ⟨#[10, 35, 120, 10]⟩] 9 (0, 0)), (V55.heap.size, .cells #[.string ⟨#[]⟩, .string ⟨#[32, 35, 32, 121]⟩, .string ⟨#[9, 32]⟩, .string ⟨#[35, 122]⟩] 9 (0, 0)), (V0.heap.size, .cells #[.string ⟨#[]⟩, .string ⟨#[10]⟩, .string ⟨#[32, 10]⟩, .string ⟨#[35, 10]⟩] 9 (0, 0))]) (fun _ h => h.sub) _ _ _ _ ?_
                  refine wpAnyH_take (i := 3) (oi := _) (v := ?_) rfl (by kernel_rfl) (by kernel_rfl) (by kernel_rfl) (fun _ _ _ h => h) (Or.inl ⟨by rfl, ?_⟩) (by assumption) ?_
                  rotate_left 1
                  · intro w hSw
                    (first | (go_simp; done) | (go_simp; with_reducible rfl) | (go_simp; rw [if_neg (Nat.not_lt.2 (by assumption))]))
                  (try simp only [Act.put, List.getElem_toArray, List.getElem_cons_succ, List.getElem_cons_zero, List.setIfInBounds_toArray, List.set_cons_zero, List.set_cons_succ])
                  refine wpAnyH_take (i := 4) (oi := _) (v := ?_) rfl (by kernel_rfl) (by kernel_rfl) (by kernel_rfl) (fun _ _ _ h => h) (Or.inl ⟨by rfl, ?_⟩) (by assumption) ?_
                  rotate_left 1
                  · intro w hSw
                    have cq : w.cell? ⟨V58.heap.size, kk, none⟩ = some (.string (str xA)) := (hSw.cell (g := V58.heap.size) (vs := #[.string ⟨#[]⟩, .string ⟨#[32]⟩, .string ⟨#[9]⟩, .string ⟨#[10, 35, 120, 10]⟩]) (t := 9) (.head _) kk).trans HrA.out
                    (first | (go_simp; done) | (go_simp; with_reducible rfl) | (go_simp; rw [if_neg (Nat.not_lt.2 (by assumption))]))
                  (try simp only [Act.put, List.getElem_toArray, List.getElem_cons_succ, List.getElem_cons_zero, List.setIfInBounds_toArray, List.set_cons_zero, List.set_cons_succ])
                  refine wpAnyH_take (i := 5) (oi := _) (v := ?_) rfl (by kernel_rfl) (by kernel_rfl) (by kernel_rfl) (fun _ _ _ h => h) (Or.inl ⟨by rfl, ?_⟩) (by assumption) ?_
                  rotate_left 1
                  · intro w hSw
                    (first | (go_simp; done) | (go_simp; with_reducible rfl) | (go_simp; rw [if_neg (Nat.not_lt.2 (by assumption))]))
                  (try simp only [Act.put, List.getElem_toArray, List.getElem_cons_succ, List.getElem_cons_zero, List.setIfInBounds_toArray, List.set_cons_zero, List.set_cons_succ])
                  refine wpAnyH_take (i := 8) (oi := _) (v := ?_) rfl (by kernel_rfl) (by kernel_rfl) (by kernel_rfl) (fun _ _ _ h => h) (Or.inl ⟨by rfl, ?_⟩) (by assumption) ?_
                  rotate_left 1
                  · intro w hSw
                    (first | (go_simp; done) | (go_simp; with_reducible rfl) | (go_simp; rw [if_neg (Nat.not_lt.2 (by assumption))]))
                  (try simp only [Act.put, List.getElem_toArray, List.getElem_cons_succ, List.getElem_cons_zero, List.setIfInBounds_toArray, List.set_cons_zero, List.set_cons_succ])
                  refine wpAnyH_take (i := 13) (oi := _) (v := ?_) rfl (by kernel_rfl) (by kernel_rfl) (by kernel_rfl) (fun _ _ _ h => h) (Or.inl ⟨by rfl, ?_⟩) (by assumption) ?_
                  rotate_left 1
                  · intro w hSw
                    (first | (go_simp; done) | (go_simp; with_reducible rfl) | (go_simp; rw [if_neg (Nat.not_lt.2 (by assumption))]))
                  (try simp only [Act.put, List.getElem_toArray, List.getElem_cons_succ, List.getElem_cons_zero, List.setIfInBounds_toArray, List.set_cons_zero, List.set_cons_succ])
                  refine wpAnyH_take (i := 14) (oi := _) (v := ?_) rfl (by kernel_rfl) (by kernel_rfl) (by kernel_rfl) (fun _ _ _ h => h) (Or.inl ⟨by rfl, ?_⟩) (by assumption) ?_
                  rotate_left 1
                  · intro w hSw
                    (first | (go_simp; done) | (go_simp; with_reducible rfl) | (go_simp; rw [if_neg (Nat.not_lt.2 (by assumption))]))
                  (try simp only [Act.put, List.getElem_toArray, List.getElem_cons_succ, List.getElem_cons_zero, List.setIfInBounds_toArray, List.set_cons_zero, List.set_cons_succ])
                  refine wpAnyH_take (i := 19) (oi := _) (v := ?_) rfl (by kernel_rfl) (by kernel_rfl) (by kernel_rfl) (fun _ _ _ h => h) (Or.inl ⟨by rfl, ?_⟩) (by assumption) ?_
                  rotate_left 1
                  · intro w hSw
                    (first | (go_simp; done) | (go_simp; with_reducible rfl) | (go_simp; rw [if_neg (Nat.not_lt.2 (by assumption))]))
                  (try simp only [Act.put, List.getElem_toArray, List.getElem_cons_succ, List.getElem_cons_zero, List.setIfInBounds_toArray, List.set_cons_zero, List.set_cons_succ])
                  refine wpAnyH_take (i := 20) (oi := _) (v := ?_) rfl (by kernel_rfl) (by kernel_rfl) (by kernel_rfl) (fun _ _ _ h => h) (Or.inl ⟨by rfl, ?_⟩) (by assumption) ?_
                  rotate_left 1
                  · intro w hSw
                    (first | (go_simp; done) | (go_simp; with_reducible rfl) | (go_simp; rw [if_neg (Nat.not_lt.2 (by assumption))]))
                  (try simp only [Act.put, List.getElem_toArray, List.getElem_cons_succ, List.getElem_cons_zero, List.setIfInBounds_toArray, List.set_cons_zero, List.set_cons_succ])
                  refine wpAnyH_done (by kernel_rfl) ?_ _
                  go_wp2
                  go_roundw
                  case rel => exact HFI.out _ hh59.bel
                  case measure => simp [intOf]; omega
                exact AllReadyH.nil
              exact AllReadyH.nil
            refine AllReadyH.cons (o := _) rfl (fun K hK => ?_) ?_
            · go_simp
              refine hK.out _ _ (hh49.step (al1 _ _)) (fun hh60a => ?_)
              clear hK K
              (try simp only [Act.put, List.getElem_toArray, List.getElem_cons_succ, List.getElem_cons_zero, List.setIfInBounds_toArray, List.set_cons_zero, List.set_cons_succ])
              have hh60 := hh60a.add (heap_alloc_new V49 (.cells #[.string ⟨#[]⟩, .string ⟨#[32, 35, 32, 121]⟩, .string ⟨#[9, 32]⟩, .string ⟨#[35, 122]⟩] 9))
              clear hh60a
              generalize V49.alloc (.cells #[.string ⟨#[]⟩, .string ⟨#[32, 35, 32, 121]⟩, .string ⟨#[9, 32]⟩, .string ⟨#[35, 122]⟩] 9) = V60 at hh60 ⊢
              refine wpAnyH_sub (R := SB w9 [(V49.heap.size, .cells #[.string ⟨#[]⟩, .string ⟨#[32, 35, 32, 121]⟩, .string ⟨#[9, 32]⟩, .string ⟨#[35, 122]⟩] 9 (0, 0)), (V0.heap.size, .cells #[.string ⟨#[]⟩, .string ⟨#[10]⟩, .string ⟨#[32, 10]⟩, .string ⟨#[35, 10]⟩] 9 (0, 0))]) (fun _ h => h.sub) _ _ _ _ ?_
              refine wpAnyH_take (i := 11) (oi := _) (v := ?_) rfl (by kernel_rfl) (by kernel_rfl) (by kernel_rfl) (fun _ _ _ h => h) (Or.inl ⟨by rfl, ?_⟩) (by assumption) ?_
              rotate_left 1
              · intro w hSw
                (first | (go_simp; done) | (go_simp; with_reducible rfl) | (go_simp; rw [if_neg (Nat.not_lt.2 (by assumption))]))
              (try simp only [Act.put, List.getElem_toArray, List.getElem_cons_succ, List.getElem_cons_zero, List.setIfInBounds_toArray, List.set_cons_zero, List.set_cons_succ])
              refine wpAnyH_take (i := 12) (oi := _) (v := ?_) rfl (by kernel_rfl) (by kernel_rfl) (by kernel_rfl) (fun _ _ _ h => h) (Or.inl ⟨by rfl, ?_⟩) (by assumption) ?_
              rotate_left 1
              · intro w hSw
                have cq : w.cell? ⟨V49.heap.size, kk, none⟩ = some (.string (str xB)) := (hSw.cell (g := V49.heap.size) (vs := #[.string ⟨#[]⟩, .string ⟨#[32, 35, 32, 121]⟩, .string ⟨#[9, 32]⟩, .string ⟨#[35, 122]⟩]) (t := 9) (.head _) kk).trans HrB.out
                (first | (go_simp; done) | (go_simp; with_reducible rfl) | (go_simp; rw [if_neg (Nat.not_lt.2 (by assumption))]))
              (try simp only [Act.put, List.getElem_toArray, List.getElem_cons_succ, List.getElem_cons_zero, List.setIfInBounds_toArray, List.set_cons_zero, List.set_cons_succ])
              refine wpAnyH_ready (rs := [1, 7]) (by kernel_rfl) (by simp) ?_
              refine AllReadyH.cons (o := _) rfl (fun K hK => ?_) ?_
              · go_simp
                refine hK.out _ _ (hh60.step (al1 _ _)) (fun hh61a => ?_)
                clear hK K
                (try simp only [Act.put, List.getElem_toArray, List.getElem_cons_succ, List.getElem_cons_zero, List.setIfInBounds_toArray, List.set_cons_zero, List.set_cons_succ])
                have hh61 := hh61a.add (heap_alloc_new V60 (.cells #[.string ⟨#[]⟩, .string ⟨#[32]⟩, .string ⟨#[9]⟩, .string ⟨#[10, 35, 120, 10]⟩] 9))
                clear hh61a
                generalize V60.alloc (.cells #[.string ⟨#[]⟩, .string ⟨#[32]⟩, .string ⟨#[9]⟩, .string ⟨#[10, 35, 120, 10]⟩] 9) = V61 at hh61 ⊢
                refine wpAnyH_sub (R := SB w9 [(V60.heap.size, .cells #[.string ⟨#[]⟩, .string ⟨#[32]⟩, .string ⟨#[9]⟩, .string ⟨#[10, 35, 120, 10]⟩] 9 (0, 0)), (V49.heap.size, .cells #[.string ⟨#[]⟩, .string ⟨#[32, 35, 32, 121]⟩, .string ⟨#[9, 32]⟩, .string ⟨#[35, 122]⟩] 9 (0, 0)), (V0.heap.size, .cells #[.string ⟨#[]⟩, .string ⟨#[10]⟩, .string ⟨#[32, 10]⟩, .string ⟨#[35, 10]⟩] 9 (0, 0))]) (fun _ h => h.sub) _ _ _ _ ?_
                refine wpAnyH_take (i := 3) (oi := _) (v := ?_) rfl (by kernel_rfl) (by kernel_rfl) (by kernel_rfl) (fun _ _ _ h => h) (Or.inl ⟨by rfl, ?_⟩) (by assumption) ?_
                rotate_left 1
                · intro w hSw
                  (first | (go_simp; done) | (go_simp; with_reducible rfl) | (go_simp; rw [if_neg (Nat.not_lt.2 (by assumption))]))
                (try simp only [Act.put, List.getElem_toArray, List.getElem_cons_succ, List.getElem_cons_zero, List.setIfInBounds_toArray, List.set_cons_zero, List.set_cons_succ])
                refine wpAnyH_take (i := 4) (oi := _) (v := ?_) rfl (by kernel_rfl) (by kernel_rfl) (by kernel_rfl) (fun _ _ _ h => h) (Or.inl ⟨by rfl, ?_⟩) (by assumption) ?_
                rotate_left 1
                · intro w hSw
                  have cq : w.cell? ⟨V60.heap.size, kk, none⟩ = some (.string (str xA)) := (hSw.cell (g := V60.heap.size) (vs := #[.string ⟨#[]⟩, .string ⟨#[32]⟩, .string ⟨#[9]⟩, .string ⟨#[10, 35, 120, 10]⟩]) (t := 9) (.head _) kk).trans HrA.out
                  (first | (go_simp; done) | (go_simp; with_reducible rfl) | (go_simp; rw [if_neg (Nat.not_lt.2 (by assumption))]))
                (try simp only [Act.put, List.getElem_toArray, List.getElem_cons_succ, List.getElem_cons_zero, List.setIfInBounds_toArray, List.set_cons_zero, List.set_cons_succ])
                refine wpAnyH_take (i := 5) (oi := _) (v := ?_) rfl (by kernel_rfl) (by kernel_rfl) (by kernel_rfl) (fun _ _ _ h => h) (Or.inl ⟨by rfl, ?_⟩) (by assumption) ?_
                rotate_left 1
                · intro w hSw
                  (first | (go_simp; done) | (go_simp; with_reducible rfl) | (go_simp; rw [if_neg (Nat.not_lt.2 (by assumption))]))
                (try simp only [Act.put, List.getElem_toArray, List.getElem_cons_succ, List.getElem_cons_zero, List.setIfInBounds_toArray, List.set_cons_zero, List.set_cons_succ])
                refine wpAnyH_ready (rs := [7]) (by kernel_rfl) (by simp) ?_
                refine AllReadyH.cons (o := _) rfl (fun K hK => ?_) ?_
                · go_simp
                  (go_at_call 10)
                  ((with_reducible refine (HLN.out _ hh61.bel).mono ?_))
                  rintro e V62 ⟨rfl, hbl⟩
                  refine hK.out _ _ (hh61.step hbl) (fun hh62 => ?_)
                  clear hK K hbl
                  (try simp only [Act.put, List.getElem_toArray, List.getElem_cons_succ, List.getElem_cons_zero, List.setIfInBounds_toArray, List.set_cons_zero, List.set_cons_succ])
                  refine wpAnyH_take (i := 8) (oi := _) (v := ?_) rfl (by kernel_rfl) (by kernel_rfl) (by kernel_rfl) (fun _ _ _ h => h) (Or.inl ⟨by rfl, ?_⟩) (by assumption) ?_
                  rotate_left 1
                  · intro w hSw
                    (first | (go_simp; done) | (go_simp; with_reducible rfl) | (go_simp; rw [if_neg (Nat.not_lt.2 (by assumption))]))
                  (try simp only [Act.put, List.getElem_toArray, List.getElem_cons_succ, List.getElem_cons_zero, List.setIfInBounds_toArray, List.set_cons_zero, List.set_cons_succ])
                  refine wpAnyH_take (i := 13) (oi := _) (v := ?_) rfl (by kernel_rfl) (by kernel_rfl) (by kernel_rfl) (fun _ _ _ h => h) (Or.inl ⟨by rfl, ?_⟩) (by assumption) ?_
                  rotate_left 1
                  · intro w hSw
                    (first | (go_simp; done) | (go_simp; with_reducible rfl) | (go_simp; rw [if_neg (Nat.not_lt.2 (by assumption))]))
                  (try simp only [Act.put, List.getElem_toArray, List.getElem_cons_succ, List.getElem_cons_zero, List.setIfInBounds_toArray, List.set_cons_zero, List.set_cons_succ])
                  refine wpAnyH_take (i := 14) (oi := _) (v := ?_) rfl (by kernel_rfl) (by kernel_rfl) (by kernel_rfl) (fun _ _ _ h => h) (Or.inl ⟨by rfl, ?_⟩) (by assumption) ?_
                  rotate_left 1
                  · intro w hSw
                    (first | (go_simp; done) | (go_simp; with_reducible rfl) | (go_simp; rw [if_neg (Nat.not_lt.2 (by assumption))]))
                  (try simp only [Act.put, List.getElem_toArray, List.getElem_cons_succ, List.getElem_cons_zero, List.setIfInBounds_toArray, List.set_cons_zero, List.set_cons_succ])
                  refine wpAnyH_take (i := 19) (oi := _) (v := ?_) rfl (by kernel_rfl) (by kernel_rfl) (by kernel_rfl) (fun _ _ _ h => h) (Or.inl ⟨by rfl, ?_⟩) (by assumption) ?_
                  rotate_left 1
                  · intro w hSw
                    (first | (go_simp; done) | (go_simp; with_reducible rfl) | (go_simp; rw [if_neg (Nat.not_lt.2 (by assumption))]))
                  (try simp only [Act.put, List.getElem_toArray, List.getElem_cons_succ, List.getElem_cons_zero, List.setIfInBounds_toArray, List.set_cons_zero, List.set_cons_succ])
                  refine wpAnyH_take (i := 20) (oi := _) (v := ?_) rfl (by kernel_rfl) (by kernel_rfl) (by kernel_rfl) (fun _ _ _ h => h) (Or.inl ⟨by rfl, ?_⟩) (by assumption) ?_
                  rotate_left 1
                  · intro w hSw
                    (first | (go_simp; done) | (go_simp; with_reducible rfl) | (go_simp; rw [if_neg (Nat.not_lt.2 (by assumption))]))
                  (try simp only [Act.put, List.getElem_toArray, List.getElem_cons_succ, List.getElem_cons_zero, List.setIfInBounds_toArray, List.set_cons_zero, List.set_cons_succ])
                  refine wpAnyH_done (by kernel_rfl) ?_ _
                  go_wp2
                  go_roundw
                  case rel => exact HFI.out _ hh62.bel
                  case measure => simp [intOf]; omega
                exact AllReadyH.nil
              refine AllReadyH.cons (o := _) rfl (fun K hK => ?_) ?_
              · go_simp
                (go_at_call 10)
                ((with_reducible refine (HLN.out _ hh60.bel).mono ?_))
                rintro e V63 ⟨rfl, hbl⟩
                refine hK.out _ _ (hh60.step hbl) (fun hh63 => ?_)
                clear hK K hbl
                (try simp only [Act.put, List.getElem_toArray, List.getElem_cons_succ, List.getElem_cons_zero, List.setIfInBounds_toArray, List.set_cons_zero, List.set_cons_succ])
                refine wpAnyH_ready (rs := [1]) (by kernel_rfl) (by simp) ?_
                refine AllReadyH.cons (o := _) rfl (fun K hK => ?_) ?_
                · go_simp
                  refine hK.out _ _ (hh63.step (al1 _ _)) (fun hh64a => ?_)
                  clear hK K
                  (try simp only [Act.put, List.getElem_toArray, List.getElem_cons_succ, List.getElem_cons_zero, List.setIfInBounds_toArray, List.set_cons_zero, List.set_cons_succ])
                  have hh64 := hh64a.add (heap_alloc_new V63 (.cells #[.string ⟨#[]⟩, .string ⟨#[32]⟩, .string ⟨#[9]⟩, .string ⟨#[10, 35, 120, 10]⟩] 9))
                  clear hh64a
                  generalize V63.alloc (.cells #[.string ⟨#[]⟩, .string ⟨#[32]⟩, .string ⟨#[9]⟩, .string ⟨#[10, 35, 120, 10]⟩] 9) = V64 at hh64 ⊢
                  refine wpAnyH_sub (R := SB w9 [(V63.heap.size, .cells #[.string ⟨#[]⟩, .string ⟨#[32]⟩, .string ⟨#[9]⟩, .string ⟨#[10, 35, 120, 10]⟩] 9 (0, 0)), (V49.heap.size, .cells #[.string ⟨#[]⟩, .string ⟨#[32, 35, 32, 121]⟩, .string ⟨#[9, 32]⟩, .string ⟨#[35, 122]⟩] 9 (0, 0)), (V0.heap.size, .cells #[.string ⟨#[]⟩, .string ⟨#[10]⟩, .string ⟨#[32, 10]⟩, .string ⟨#[35, 10]⟩] 9 (0, 0))]) (fun _ h => h.sub) _ _ _ _ ?_
                  refine wpAnyH_take (i := 3) (oi := _) (v := ?_) rfl (by kernel_rfl) (by kernel_rfl) (by kernel_rfl) (fun _ _ _ h => h) (Or.inl ⟨by rfl, ?_⟩) (by assumption) ?_
                  rotate_left 1
                  · intro w hSw
                    (first | (go_simp; done) | (go_simp; with_reducible rfl) | (go_simp; rw [if_neg (Nat.not_lt.2 (by assumption))]))
                  (try simp only [Act.put, List.getElem_toArray, List.getElem_cons_succ, List.getElem_cons_zero, List.setIfInBounds_toArray, List.set_cons_zero, List.set_cons_succ])
                  refine wpAnyH_take (i := 4) (oi := _) (v := ?_) rfl (by kernel_rfl) (by kernel_rfl) (by kernel_rfl) (fun _ _ _ h => h) (Or.inl ⟨by rfl, ?_⟩) (by assumption) ?_
                  rotate_left 1
                  · intro w hSw
                    have cq : w.cell? ⟨V63.heap.size, kk, none⟩ = some (.string (str xA)) := (hSw.cell (g := V63.heap.size) (vs := #[.string ⟨#[]⟩, .string ⟨#[32]⟩, .string ⟨#[9]⟩, .string ⟨#[10, 35, 120, 10]⟩]) (t := 9) (.head _) kk).trans HrA.out
                    (first | (go_simp; done) | (go_simp; with_reducible rfl) | (go_simp; rw [if_neg (Nat.not_lt.2 (by assumption))]))
                  (try simp only [Act.put, List.getElem_toArray, List.getElem_cons_succ, List.getElem_cons_zero, List.setIfInBounds_toArray, List.set_cons_zero, List.set_cons_succ])
                  refine wpAnyH_take (i := 5) (oi := _) (v := ?_) rfl (by kernel_rfl) (by kernel_rfl) (by kernel_rfl) (fun _ _ _ h => h) (Or.inl ⟨by rfl, ?_⟩) (by assumption) ?_
                  rotate_left 1
                  · intro w hSw
                    (first | (go_simp; done) | (go_simp; with_reducible rfl) | (go_simp; rw [if_neg (Nat.not_lt.2 (by assumption))]))
                  (try simp only [Act.put, List.getElem_toArray, List.getElem_cons_succ, List.getElem_cons_zero, List.setIfInBounds_toArray, List.set_cons_zero, List.set_cons_succ])
                  refine wpAnyH_take (i := 8) (oi := _) (v := ?_) rfl (by kernel_rfl) (by kernel_rfl) (by kernel_rfl) (fun _ _ _ h => h) (Or.inl ⟨by rfl, ?_⟩) (by assumption) ?_
                  rotate_left 1
                  · intro w hSw
                    (first | (go_simp; done) | (go_simp; with_reducible rfl) | (go_simp; rw [if_neg (Nat.not_lt.2 (by assumption))]))
                  (try simp only [Act.put, List.getElem_toArray, List.getElem_cons_succ, List.getElem_cons_zero, List.setIfInBounds_toArray, List.set_cons_zero, List.set_cons_succ])
                  refine wpAnyH_take (i := 13) (oi := _) (v := ?_) rfl (by kernel_rfl) (by kernel_rfl) (by kernel_rfl) (fun _ _ _ h => h) (Or.inl ⟨by rfl, ?_⟩) (by assumption) ?_
                  rotate_left 1
                  · intro w hSw
                    (first | (go_simp; done) | (go_simp; with_reducible rfl) | (go_simp; rw [if_neg (Nat.not_lt.2 (by assumption))]))
                  (try simp only [Act.put, List.getElem_toArray, List.getElem_cons_succ, List.getElem_cons_zero, List.setIfInBounds_toArray, List.set_cons_zero, List.set_cons_succ])
                  refine wpAnyH_take (i := 14) (oi := _) (v := ?_) rfl (by kernel_rfl) (by kernel_rfl) (by kernel_rfl) (fun _ _ _ h => h) (Or.inl ⟨by rfl, ?_⟩) (by assumption) ?_
                  rotate_left 1
                  · intro w hSw
                    (first | (go_simp; done) | (go_simp; with_reducible rfl) | (go_simp; rw [if_neg (Nat.not_lt.2 (by assumption))]))
                  (try simp only [Act.put, List.getElem_toArray, List.getElem_cons_succ, List.getElem_cons_zero, List.setIfInBounds_toArray, List.set_cons_zero, List.set_cons_succ])
                  refine wpAnyH_take (i := 19) (oi := _) (v := ?_) rfl (by kernel_rfl) (by kernel_rfl) (by kernel_rfl) (fun _ _ _ h => h) (Or.inl ⟨by rfl, ?_⟩) (by assumption) ?_
                  rotate_left 1
                  · intro w hSw
                    (first | (go_simp; done) | (go_simp; with_reducible rfl) | (go_simp; rw [if_neg (Nat.not_lt.2 (by assumption))]))
                  (try simp only [Act.put, List.getElem_toArray, List.getElem_cons_succ, List.getElem_cons_zero, List.setIfInBounds_toArray, List.set_cons_zero, List.set_cons_succ])
                  refine wpAnyH_take (i := 20) (oi := _) (v := ?_) rfl (by kernel_rfl) (by kernel_rfl) (by kernel_rfl) (fun _ _ _ h => h) (Or.inl ⟨by rfl, ?_⟩) (by assumption) ?_
                  rotate_left 1
                  · intro w hSw
                    (first | (go_simp; done) | (go_simp; with_reducible rfl) | (go_simp; rw [if_neg (Nat.not_lt.2 (by assumption))]))
                  (try simp only [Act.put, List.getElem_toArray, List.getElem_cons_succ, List.getElem_cons_zero, List.setIfInBounds_toArray, List.set_cons_zero, List.set_cons_succ])
                  refine wpAnyH_done (by kernel_rfl) ?_ _
                  go_wp2
                  go_roundw
                  case rel => exact HFI.out _ hh64.bel
                  case measure => simp [intOf]; omega
                exact AllReadyH.nil
              exact AllReadyH.nil
            exact AllReadyH.nil
          exact AllReadyH.nil
    · obtain rfl : k = m := by omega
      have HSB := Lib.hid hsb
      have HL9 : Hid (s.length ≤ 90000) := Lib.hid (by have := HF.out; omega)
      have HKR : Hid (Kn wr) := Lib.hid ((HK.out.below hbw1).below hb)
      have HBW : Hid (Below w.heap.size w wr) := Lib.hid (hbw1.trans (hb.mono hbw1.size))
      have HPP := Lib.hid hpt.done
      have HOB : Hid (∀ i, (aAt al i).b.length < 1000000) := Lib.hid (fun i => by have := aAt_of (Q := fun a => a.b.length ≤ 1030) hob (by decide) i; omega)
      obtain ⟨A7, c7, rfl, hv7, _, _, _⟩ := hao.acV (Nat.le_refl _) hb.size
      obtain ⟨n6, hn6⟩ : ∃ n6, al.length = n6 := ⟨_, rfl⟩
      rw [hn6] at hv7
      have HV7 := Lib.hid hv7
      have HN6 : Hid (n6 < 100000) := Lib.hid (by have := HF.out; omega)
      clear hsb hsl hol hob hpt hao hb hv7
      rw [hn6]
      have HN6E := Lib.hid hn6
      clear hn6
      go_wp2_with fail
      refine (lparse_any s HSB.out HL9.out wr HKR.out).mono ?_
      rintro e w3 ⟨v3, l3, k3, er3, rfl, hb3, ho3, hp3, he0, he1⟩
      obtain ⟨rfl, rfl⟩ : al = l3 ∧ 0 = k3 := by have h := HPP.out.symm.trans hp3; injection h with h1 h2; exact ⟨h1, h2⟩
      obtain rfl := he0 rfl
      have HB3 : Hid (Below w.heap.size w w3) := Lib.hid (HBW.out.trans (hb3.mono HBW.out.size))
      have HK3 : Hid (Kn w3) := Lib.hid (HKR.out.below hb3)
      have HV73 : Hid (AcV w3 A7 n6 al) := Lib.hid (HV7.out.below hb3)
      obtain ⟨A6, c6, rfl, hv6, _, _, _⟩ := ho3.acV (Nat.le_refl _) hb3.size
      rw [HN6E.out] at hv6 ⊢
      have HPL : Hid (Calls Tryd.prog 15 #[.slice A6 n6 c6] w3 (GivesA 26 w3 al)) := Lib.hid (plain27_any A6 n6 c6 al w3 hv6 HN6.out HOB.out)
      clear ho3 hp3 he0 he1 hv6 hb3
      go_wp2_with fail
      refine HPL.out.mono ?_
      rintro e w5 ⟨v5, rfl, ho5, hb5⟩
      obtain ⟨A8, c8, rfl, hv8, _, _, _⟩ := ho5.acV (Nat.le_refl _) hb5.size
      have HB5 : Hid (Below w.heap.size w w5) := Lib.hid (HB3.out.trans (hb5.mono HB3.out.size))
      have HK5 : Hid (Kn w5) := Lib.hid (HK3.out.below hb5)
      have HV8 : Hid (AcV w5 A8 n6 al) := Lib.hid (by rw [← HN6E.out]; exact hv8)
      have HV9 : Hid (AcV w5 A7 n6 al) := Lib.hid (HV73.out.below hb5)
      have e9 : allF false al al = true := (allF_iff al al).2 rfl
      have HAL := Lib.hid (rall27_any A8 A7 n6 c8 n6 c7 al al false w5 HV8.out HV9.out HN6.out HN6.out)
      rw [e9] at HAL
      rw [HN6E.out]
      clear ho5 hb5 hv8 e9
      go_wp2_with fail
      refine HAL.out.mono ?_
      rintro e w6 ⟨rfl, hb6⟩
      have HB6 : Hid (Below w.heap.size w w6) := Lib.hid (HB5.out.trans (hb6.mono HB5.out.size))
      have HAW := Lib.hid (awake31_any w6 (HK5.out.below hb6))
      clear hb6
      go_wp2_with fail
      refine HAW.out.mono ?_
      rintro e w7 ⟨rfl, hb7⟩
      have HB7 : Hid (Below w.heap.size w w7) := Lib.hid (HB6.out.trans (hb7.mono HB6.out.size))
      clear hb7
      go_wp2
      go_ret
      exact ⟨rfl, HB7.out⟩
end Go.Proofs.YtcaogiaoabdkdaaDoor
