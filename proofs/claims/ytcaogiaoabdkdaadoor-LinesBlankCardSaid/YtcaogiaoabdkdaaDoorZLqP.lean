/-
  LinesParse's walk.
-/
import Derived.Test.YtcaogiaoabdkdaaDoorZLqO
import Derived.Test.YtcaogiaoabdkdaaDoorZLnQ
import Derived.Test.YtcaogiaoabdkdaaDoorZLnP
import Derived.Test.YtcaogiaoabdkdaaDoorZLnF
import Derived.Test.YtcaogiaoabdkdaaDoorZScK
import Derived.Test.YtcaogiaoabdkdaaDoorZScA
namespace Go.Proofs.YtcaogiaoabdkdaaDoor
open Go.RowKit Go
set_option linter.unusedVariables false
set_option linter.unusedSimpArgs false
set_option maxRecDepth 1000000
set_option maxHeartbeats 4000000
/-- a slice of strings that came in -/
def SV (w : World) (A : Option Addr) (n : Nat) (L : Nat → List Nat) : Prop := 0 < n → ∃ b o, A = some ⟨b, o, none⟩ ∧ b < w.heap.size ∧ ∀ i, i < n → w.cell? ⟨b, o + i, none⟩ = some (.string (str (L i))) ∧ (∀ c ∈ L i, c < 256)
section
open Go.ChangeShapes Go.WideShapes Go.Deep
variable {H : Type} {enc : TypeId × Value → H}
theorem ss_open {w : World} {A : Option Addr} {n c : Nat} {d : DataW H} {p : List MemPlace} (h : DataW.Trod enc Tryd.prog w 0 (fun _ => true) true 42 (.slice A n c) d p) : ∃ L, SV w A n L ∧ n ≤ 9223372036854775807 := by
  obtain ⟨fuel, hf⟩ := h
  rcases open_slice Tryd.underlying42 hf with ⟨hcs, _⟩ | ⟨a, len, cap, m, k, D, Pl, hcs, _, hl, hm, hmm, _, hi⟩
  · simp [Value.cells] at hcs
    obtain ⟨rfl, rfl, rfl⟩ := hcs
    exact ⟨fun _ => [], fun h => absurd h (by omega), by omega⟩
  · simp [Value.cells] at hcs
    obtain ⟨rfl, rfl, rfl⟩ := hcs
    have hC : Tryd.prog.cellsOf 9 = 1 := by kernel_rfl
    have key : ∀ i, ∃ s : ByteArray, i < n → w.cell? (a.add (i * 1)) = some (.string s) := fun i => by
      by_cases hin : i < n
      · obtain ⟨cs', hc, ht'⟩ := hi i (by have : m = c := (by simpa using hmm); omega)
        rw [hC] at hc
        obtain ⟨s, rfl, _, _⟩ := DataW.trod_string Tryd.underlying9 ht'
        obtain ⟨_, _, hat⟩ := World.cells?_some hc
        have := hat 0 (by omega)
        refine ⟨s, fun _ => ?_⟩
        have e : (a.add (i * 1)).add 0 = a.add (i * 1) := by simp [Addr.add]
        rw [e] at this
        simpa using this
      · exact ⟨ByteArray.empty, fun h => absurd h hin⟩
    have hch := fun i => (key i)
    obtain ⟨S, hS⟩ := Classical.axiomOfChoice hch
    have hm2 : m = c := by simpa using hmm
    refine ⟨fun i => natL (S i), fun hn0 => ?_, by unfold maxLen at hm; omega⟩
    obtain ⟨b, off, spot⟩ := a
    have hc0 := hS 0 hn0
    have hspot : spot = none := by simpa [Addr.add] using World.cell?_spot hc0
    subst hspot
    refine ⟨b, off, rfl, by simpa [Go.WideShapes.add_plain] using block_lt_of_cell hc0, fun i hin => ⟨?_, natL_byte _⟩⟩
    have := hS i hin
    rw [str_natL]
    simpa [Go.WideShapes.add_plain] using this
end
def LpR (w : World) (m : Nat) (iv sv : Value) (wr : World) : Prop := ∃ (k : Nat) (u : List Nat), iv = .int .i64 (k : Int) ∧ sv = .string (str u) ∧ k ≤ m ∧ (∀ c ∈ u, c < 256) ∧ u.length ≤ 400 + k * 6400 ∧ Below w.heap.size w wr
theorem linesParse_any (s0 : ByteArray) (h0 : s0.size ≤ maxLen) (A1 : Option Addr) (n1 c1 : Nat) (l : List Ac) (A2 : Option Addr) (n2 c2 : Nat) (L : Nat → List Nat) (w : World) (hv : AcV w A1 n1 l) (hn1 : n1 ≤ 9223372036854775807) (hs : SV w A2 n2 L) (hn2 : n2 ≤ 9223372036854775807) (hK : Kn w) :
    Calls Tryd.prog 4 #[.string s0, .slice A1 n1 c1, .slice A2 n2 c2] w (SameTo w true) := by
  obtain ⟨l0, rfl, hb0⟩ : ∃ l0, s0 = str l0 ∧ ∀ c ∈ l0, c < 256 := ⟨natL s0, (str_natL s0).symm, natL_byte s0⟩
  rw [str_size] at h0
  have hsz := str_size l0
  have HC := Lib.hid (cut27_any A1 n1 c1 6 l w hv hn1 (by omega))
  have HF := Lib.hid (cutL_len 6 l)
  have HFB := Lib.hid (cutL_b 6 l)
  generalize cutL 6 l = cl at *
  have HK := Lib.hid hK
  have HS := Lib.hid hs
  have HB0 := Lib.hid hb0
  have hmx : l0.length ≤ 9223372036854775807 := by unfold maxLen at h0; omega
  clear hv hK hs hb0 h0
  by_cases hlen : 400 < l0.length
  · have hlenI : (400 : Int) < (l0.length : Int) := by omega
    have hsub : (Instr.slice 9 (.string (str l0)) none (some (.int .i64 400)) none).run Tryd.prog w = .ok (.string (str (l0.take 400))) w := sub_to (j := 400) (by omega) w
    have HU : Hid (∀ c ∈ l0.take 400, c < 256) := Lib.hid (fun c hc => HB0.out c (List.mem_of_mem_take hc))
    have HUL : Hid ((l0.take 400).length ≤ 400) := Lib.hid (by rw [List.length_take]; omega)
    go_enter Tryd.func4, Tryd.ntmps4
    go_wp2_with fail
    refine HC.out.mono ?_
    rintro e w1 ⟨v1, rfl, ho1, hbw1⟩
    obtain ⟨A3, c3, rfl, hv1, _, _, _⟩ := ho1.acV (Nat.le_refl _) hbw1.size
    obtain ⟨m, hm⟩ : ∃ m, cl.length = m := ⟨_, rfl⟩
    have HV1 : Hid (AcV w1 A3 m cl) := Lib.hid (by rw [← hm]; exact hv1)
    rw [hm] at HF HFB ⊢
    have HR0 : Hid (LpR w1 m (.int .i64 0) (.string (str (l0.take 400))) w1) := Lib.hid ⟨0, _, rfl, rfl, by omega, HU.out, by have := HUL.out; omega, Below.refl _ _⟩
    have HBY := Lib.hid (fun i => HV1.out.byte i)
    have hm9 : m ≤ 6 := HF.out
    clear ho1 hv1 hm HC HU HUL hsz HB0
    go_wp2_with fail
    go_loopw [22, 0] (fun iv sv wr => LpR w1 m iv sv wr) (fun iv _ _ => (m - intOf iv).toNat)
    case atStart => exact HR0.out
    case round =>
      clear HR0
      obtain ⟨k, u, rfl, rfl, hk, hub, hul, hb⟩ := hrel
      by_cases hlt : k < m
      · have HB := Lib.hid hb
        have HUB := Lib.hid hub
        have HUL := Lib.hid hul
        clear hub hul hb
        obtain ⟨b, o, A5, c5, rfl, hb0, q0, q1, q2, q3, q4, q5, q6, hs1, hz1⟩ := HV1.out.at_ (show k < m by omega)
        have p0 : wr.cell? ⟨b, o + k * 7, none⟩ = some (.int .i64 (aAt cl k).kind) := (HB.out.cell (p := ⟨b, o + k * 7, none⟩) hb0).trans q0
        have p1 : wr.cell? ⟨b, o + k * 7 + 1, none⟩ = some (.bool (aAt cl k).yes) := (HB.out.cell (p := ⟨b, o + k * 7 + 1, none⟩) hb0).trans q1
        have p2 : wr.cell? ⟨b, o + k * 7 + 2, none⟩ = some (.int .i64 (aAt cl k).which) := (HB.out.cell (p := ⟨b, o + k * 7 + 2, none⟩) hb0).trans q2
        have p3 : wr.cell? ⟨b, o + k * 7 + 3, none⟩ = some (.int .i64 (aAt cl k).k) := (HB.out.cell (p := ⟨b, o + k * 7 + 3, none⟩) hb0).trans q3
        have p4 : wr.cell? ⟨b, o + k * 7 + 4, none⟩ = some (.int .i64 (aAt cl k).n) := (HB.out.cell (p := ⟨b, o + k * 7 + 4, none⟩) hb0).trans q4
        have p5 : wr.cell? ⟨b, o + k * 7 + 5, none⟩ = some (.int .i64 (aAt cl k).pos) := (HB.out.cell (p := ⟨b, o + k * 7 + 5, none⟩) hb0).trans q5
        have p6 : wr.cell? ⟨b, o + k * 7 + 6, none⟩ = some (.slice A5 (aAt cl k).b.length c5) := (HB.out.cell (p := ⟨b, o + k * 7 + 6, none⟩) hb0).trans q6
        have hlt1 : b < wr.heap.size := Nat.lt_of_lt_of_le hb0 HB.out.size
        have HBB := Lib.hid (HBY.out k)
        have HBL := Lib.hid (HFB.out k hlt)
        have HAM : Hid (∀ K y z1 z2 z3 z4 bb, aAt cl k = ⟨K, y, z1, z2, z3, z4, bb⟩ → True) := Lib.hid (fun _ _ _ _ _ _ _ _ => trivial)
        obtain ⟨bb, hbb⟩ : ∃ bb, (aAt cl k).b = bb := ⟨_, rfl⟩
        rw [hbb] at p6 hs1 HBB HBL
        obtain ⟨n5, hn5⟩ : ∃ n5, bb.length = n5 := ⟨_, rfl⟩
        have HN5 := Lib.hid hn5
        rw [hn5] at p6 hs1 HBL
        have HS1 := Lib.hid hs1
        clear q0 q1 q2 q3 q4 q5 q6 hs1 hz1 hb0 hbb hn5
        generalize (aAt cl k).kind = K at *
        generalize (aAt cl k).yes = y at *
        generalize (aAt cl k).which = z1 at *
        generalize (aAt cl k).k = z2 at *
        generalize (aAt cl k).n = z3 at *
        generalize (aAt cl k).pos = z4 at *
        have HB4 : Hid (Below wr.heap.size wr (wr.alloc (.cells #[.int .i64 K, .bool y, .int .i64 z1, .int .i64 z2, .int .i64 z3, .int .i64 z4, .slice A5 n5 c5] 26))) := Lib.hid (al1 _ _)
        have HE4 : Hid ((wr.alloc (.cells #[.int .i64 K, .bool y, .int .i64 z1, .int .i64 z2, .int .i64 z3, .int .i64 z4, .slice A5 n5 c5] 26)).heap[wr.heap.size]? = some (.cells #[.int .i64 K, .bool y, .int .i64 z1, .int .i64 z2, .int .i64 z3, .int .i64 z4, .slice A5 n5 c5] 26 (0, 0))) := Lib.hid (heap_alloc_new _ _)
        have HZ4 : Hid (wr.heap.size < (wr.alloc (.cells #[.int .i64 K, .bool y, .int .i64 z1, .int .i64 z2, .int .i64 z3, .int .i64 z4, .slice A5 n5 c5] 26)).heap.size) := Lib.hid (by simp)
        have HMY := Lib.hid (rmay31_any K y z1 z2 z3 z4 A5 n5 c5 bb HN5.out (by have := HBL.out; omega) (wr.alloc (.cells #[.int .i64 K, .bool y, .int .i64 z1, .int .i64 z2, .int .i64 z3, .int .i64 z4, .slice A5 n5 c5] 26)))
        generalize hW4 : wr.alloc (.cells #[.int .i64 K, .bool y, .int .i64 z1, .int .i64 z2, .int .i64 z3, .int .i64 z4, .slice A5 n5 c5] 26) = W4 at *
        have g0 : W4.cell? ⟨wr.heap.size, 0, none⟩ = some (.int .i64 K) := blk_cell HE4.out 0
        have g1 : W4.cell? ⟨wr.heap.size, 1, none⟩ = some (.bool y) := blk_cell HE4.out 1
        have g2 : W4.cell? ⟨wr.heap.size, 2, none⟩ = some (.int .i64 z1) := blk_cell HE4.out 2
        have g3 : W4.cell? ⟨wr.heap.size, 3, none⟩ = some (.int .i64 z2) := blk_cell HE4.out 3
        have g4 : W4.cell? ⟨wr.heap.size, 4, none⟩ = some (.int .i64 z3) := blk_cell HE4.out 4
        have g5 : W4.cell? ⟨wr.heap.size, 5, none⟩ = some (.int .i64 z4) := blk_cell HE4.out 5
        have g6 : W4.cell? ⟨wr.heap.size, 6, none⟩ = some (.slice A5 n5 c5) := blk_cell HE4.out 6
        clear HAM
        go_wp2_with fail
        refine HMY.out.mono ?_
        rintro e w2 ⟨rfl, hb2⟩
        have HB2 : Hid (Below w1.heap.size w1 w2) := Lib.hid (HB.out.trans ((HB4.out.trans (hb2.mono HB4.out.size)).mono HB.out.size))
        have HBA2 : Hid (Below w.heap.size w w2) := Lib.hid (hbw1.trans (HB2.out.mono hbw1.size))
        clear g0 g1 g2 g3 g4 g5 g6
        have hlt2 : wr.heap.size < W4.heap.size := HZ4.out
        have g0 : w2.cell? ⟨wr.heap.size, 0, none⟩ = some (.int .i64 K) := (hb2.cell (p := ⟨wr.heap.size, 0, none⟩) hlt2).trans (blk_cell HE4.out 0)
        have g1 : w2.cell? ⟨wr.heap.size, 1, none⟩ = some (.bool y) := (hb2.cell (p := ⟨wr.heap.size, 1, none⟩) hlt2).trans (blk_cell HE4.out 1)
        have g2 : w2.cell? ⟨wr.heap.size, 2, none⟩ = some (.int .i64 z1) := (hb2.cell (p := ⟨wr.heap.size, 2, none⟩) hlt2).trans (blk_cell HE4.out 2)
        have g3 : w2.cell? ⟨wr.heap.size, 3, none⟩ = some (.int .i64 z2) := (hb2.cell (p := ⟨wr.heap.size, 3, none⟩) hlt2).trans (blk_cell HE4.out 3)
        have g4 : w2.cell? ⟨wr.heap.size, 4, none⟩ = some (.int .i64 z3) := (hb2.cell (p := ⟨wr.heap.size, 4, none⟩) hlt2).trans (blk_cell HE4.out 4)
        have g5 : w2.cell? ⟨wr.heap.size, 5, none⟩ = some (.int .i64 z4) := (hb2.cell (p := ⟨wr.heap.size, 5, none⟩) hlt2).trans (blk_cell HE4.out 5)
        have g6 : w2.cell? ⟨wr.heap.size, 6, none⟩ = some (.slice A5 n5 c5) := (hb2.cell (p := ⟨wr.heap.size, 6, none⟩) hlt2).trans (blk_cell HE4.out 6)
        have HS2 : Hid (BS w2 w2.heap.size A5 n5 c5 bb) := Lib.hid ((HS1.out.below HB2.out).more HB2.out.size)
        clear hb2 p0 p1 p2 p3 p4 p5 p6
        cases hmay : mayLn ⟨K, y, z1, z2, z3, z4, bb⟩ with
        | false =>
          obtain ⟨w5, hw5⟩ : ∃ w5, w5 = w2 := ⟨_, rfl⟩
          obtain ⟨u5, hu5⟩ : ∃ u5, u5 = u := ⟨_, rfl⟩
          subst hw5 hu5
          have HB5 := HB2
          have HBA := HBA2
          have HU5 := HUB
          have HL5 : Hid (u5.length ≤ 400 + k * 6400 + 6310) := Lib.hid (by have := HUL.out; omega)
          clear g0 g1 g2 g3 g4 g5 g6 hW4 hmay HS2 HS1 HB2 HBA2 HUL HUB HMY HE4 HZ4 HB4 hlt2
          by_cases hk2 : k < n2
          · obtain ⟨b2, o2, rfl, hb2, hc2⟩ := HS.out (by omega)
            obtain ⟨q0, q1⟩ := hc2 k hk2
            have p0 : w5.cell? ⟨b2, o2 + k, none⟩ = some (.string (str (L k))) := (HBA.out.cell (p := ⟨b2, o2 + k, none⟩) hb2).trans q0
            have hk2I : (k : Int) < (n2 : Int) := by omega
            have hsL := str_size (L k)
            have HQ1 := Lib.hid q1
            clear hc2 q0 q1
            generalize L k = Lk at *
            by_cases h20 : Lk.length < 20
            · have h20I : (Lk.length : Int) < 20 := by omega
              have hsu := str_size u5
              have hsx : (str u5).size + (str Lk).size ≤ 9223372036854775807 := by rw [hsu, hsL]; have := HL5.out; have := HF.out; omega
              have happ := str_app u5 Lk
              have hs3 := str_size (u5 ++ Lk)
              have hl3 : (u5 ++ Lk).length = u5.length + Lk.length := List.length_append
              have hsy : (str (u5 ++ Lk)).size + 1 ≤ 9223372036854775807 := by rw [hs3, hl3]; have := HL5.out; have := HF.out; omega
              have hnl : str (u5 ++ Lk) ++ (⟨#[10]⟩ : ByteArray) = str (u5 ++ Lk ++ [10]) := str_app (u5 ++ Lk) [10]
              have HFI : Hid (LpR w1 m (.int .i64 ((k : Int) + 1)) (.string (str (u5 ++ (Lk ++ [10])))) w5) := Lib.hid ⟨k + 1, _, rfl, rfl, by omega, fun c hc => by
                simp only [List.mem_append, List.mem_singleton] at hc
                rcases hc with hc | hc | hc
                · exact HU5.out c hc
                · exact HQ1.out c hc
                · omega, by simp only [List.length_append, List.length_singleton]; have := HL5.out; omega, HB5.out⟩
              skip
              go_wp2
              go_roundw
              case rel => exact HFI.out
              case measure => simp [intOf]; omega
            · have h20I : ¬ (Lk.length : Int) < 20 := by omega
              have hsu := str_size u5
              have hsy : (str u5).size + 1 ≤ 9223372036854775807 := by rw [hsu]; have := HL5.out; have := HF.out; omega
              have hnl : str u5 ++ (⟨#[10]⟩ : ByteArray) = str (u5 ++ [10]) := str_app u5 [10]
              have HFI : Hid (LpR w1 m (.int .i64 ((k : Int) + 1)) (.string (str (u5 ++ [10]))) w5) := Lib.hid ⟨k + 1, _, rfl, rfl, by omega, fun c hc => by
                simp only [List.mem_append, List.mem_singleton] at hc
                rcases hc with hc | hc
                · exact HU5.out c hc
                · omega, by simp only [List.length_append, List.length_singleton]; have := HL5.out; omega, HB5.out⟩
              go_wp2
              go_roundw
              case rel => exact HFI.out
              case measure => simp [intOf]; omega
          · have hk2I : ¬ (k : Int) < (n2 : Int) := by omega
            have hsu := str_size u5
            have hsy : (str u5).size + 1 ≤ 9223372036854775807 := by rw [hsu]; have := HL5.out; have := HF.out; omega
            have hnl : str u5 ++ (⟨#[10]⟩ : ByteArray) = str (u5 ++ [10]) := str_app u5 [10]
            have HFI : Hid (LpR w1 m (.int .i64 ((k : Int) + 1)) (.string (str (u5 ++ [10]))) w5) := Lib.hid ⟨k + 1, _, rfl, rfl, by omega, fun c hc => by
              simp only [List.mem_append, List.mem_singleton] at hc
              rcases hc with hc | hc
              · exact HU5.out c hc
              · omega, by simp only [List.length_append, List.length_singleton]; have := HL5.out; omega, HB5.out⟩
            go_wp2
            go_roundw
            case rel => exact HFI.out
            case measure => simp [intOf]; omega
        | true =>
          have hA : mayA ⟨K, y, z1, z2, z3, z4, bb⟩ = true := by unfold mayLn at hmay; rw [Bool.and_eq_true] at hmay; exact hmay.1
          obtain ⟨kd, y1, y2, y3, y4, hkd, hy1, hy2, hy3, hy4, hbl, e0, e1, e2, e3, e4⟩ := mayA_nat hA
          dsimp only at e0 e1 e2 e3 e4
          subst e0 e1 e2 e3 e4
          by_cases h40 : n5 < 40
          · have h40I : (n5 : Int) < 40 := by omega
            have HLN := Lib.hid (rline_any kd y1 y2 y3 y4 y A5 n5 c5 bb w2 hkd (by omega) (by omega) (by omega) (by omega) HS2.out (by omega))
            have HLL := Lib.hid (lineA_len hmay)
            have HLB := Lib.hid (lineA_byte hmay (mem_getD HBB.out))
            generalize lineA ⟨kd, y, y1, y2, y3, y4, bb⟩ = la at *
            clear hA hbl hW4 hmay HS2 HS1 HMY HE4 HZ4 HB4 hlt2 hkd hy1 hy2 hy3 hy4
            go_wp2_with fail
            refine HLN.out.mono ?_
            rintro e w5 ⟨rfl, hb5⟩
            have HB5 : Hid (Below w1.heap.size w1 w5) := Lib.hid (HB2.out.trans (hb5.mono HB2.out.size))
            have HBA : Hid (Below w.heap.size w w5) := Lib.hid (hbw1.trans (HB5.out.mono hbw1.size))
            have hsu0 := str_size u
            have hsl0 := str_size la
            have hsx0 : (str u).size + (str la).size ≤ 9223372036854775807 := by rw [hsu0, hsl0]; have := HUL.out; have := HLL.out; have := HF.out; omega
            obtain ⟨u5, hu5⟩ : ∃ u5, u ++ la = u5 := ⟨_, rfl⟩
            have happ0 : str u ++ str la = str u5 := by rw [← hu5]; exact str_app u la
            have HU5 : Hid (∀ c ∈ u5, c < 256) := Lib.hid (fun c hc => by
              rw [← hu5, List.mem_append] at hc
              rcases hc with hc | hc
              · exact HUB.out c hc
              · exact HLB.out c hc)
            have HL5 : Hid (u5.length ≤ 400 + k * 6400 + 6310) := Lib.hid (by rw [← hu5, List.length_append]; have := HUL.out; have := HLL.out; omega)
            clear g0 g1 g2 g3 g4 g5 g6 hb5 HB2 HBA2 HUL HUB HLN hu5
            by_cases hk2 : k < n2
            · obtain ⟨b2, o2, rfl, hb2, hc2⟩ := HS.out (by omega)
              obtain ⟨q0, q1⟩ := hc2 k hk2
              have p0 : w5.cell? ⟨b2, o2 + k, none⟩ = some (.string (str (L k))) := (HBA.out.cell (p := ⟨b2, o2 + k, none⟩) hb2).trans q0
              have hk2I : (k : Int) < (n2 : Int) := by omega
              have hsL := str_size (L k)
              have HQ1 := Lib.hid q1
              clear hc2 q0 q1
              generalize L k = Lk at *
              by_cases h20 : Lk.length < 20
              · have h20I : (Lk.length : Int) < 20 := by omega
                have hsu := str_size u5
                have hsx : (str u5).size + (str Lk).size ≤ 9223372036854775807 := by rw [hsu, hsL]; have := HL5.out; have := HF.out; omega
                have happ := str_app u5 Lk
                have hs3 := str_size (u5 ++ Lk)
                have hl3 : (u5 ++ Lk).length = u5.length + Lk.length := List.length_append
                have hsy : (str (u5 ++ Lk)).size + 1 ≤ 9223372036854775807 := by rw [hs3, hl3]; have := HL5.out; have := HF.out; omega
                have hnl : str (u5 ++ Lk) ++ (⟨#[10]⟩ : ByteArray) = str (u5 ++ Lk ++ [10]) := str_app (u5 ++ Lk) [10]
                have HFI : Hid (LpR w1 m (.int .i64 ((k : Int) + 1)) (.string (str (u5 ++ (Lk ++ [10])))) w5) := Lib.hid ⟨k + 1, _, rfl, rfl, by omega, fun c hc => by
                  simp only [List.mem_append, List.mem_singleton] at hc
                  rcases hc with hc | hc | hc
                  · exact HU5.out c hc
                  · exact HQ1.out c hc
                  · omega, by simp only [List.length_append, List.length_singleton]; have := HL5.out; omega, HB5.out⟩
                skip
                go_wp2
                go_roundw
                case rel => exact HFI.out
                case measure => simp [intOf]; omega
              · have h20I : ¬ (Lk.length : Int) < 20 := by omega
                have hsu := str_size u5
                have hsy : (str u5).size + 1 ≤ 9223372036854775807 := by rw [hsu]; have := HL5.out; have := HF.out; omega
                have hnl : str u5 ++ (⟨#[10]⟩ : ByteArray) = str (u5 ++ [10]) := str_app u5 [10]
                have HFI : Hid (LpR w1 m (.int .i64 ((k : Int) + 1)) (.string (str (u5 ++ [10]))) w5) := Lib.hid ⟨k + 1, _, rfl, rfl, by omega, fun c hc => by
                  simp only [List.mem_append, List.mem_singleton] at hc
                  rcases hc with hc | hc
                  · exact HU5.out c hc
                  · omega, by simp only [List.length_append, List.length_singleton]; have := HL5.out; omega, HB5.out⟩
                go_wp2
                go_roundw
                case rel => exact HFI.out
                case measure => simp [intOf]; omega
            · have hk2I : ¬ (k : Int) < (n2 : Int) := by omega
              have hsu := str_size u5
              have hsy : (str u5).size + 1 ≤ 9223372036854775807 := by rw [hsu]; have := HL5.out; have := HF.out; omega
              have hnl : str u5 ++ (⟨#[10]⟩ : ByteArray) = str (u5 ++ [10]) := str_app u5 [10]
              have HFI : Hid (LpR w1 m (.int .i64 ((k : Int) + 1)) (.string (str (u5 ++ [10]))) w5) := Lib.hid ⟨k + 1, _, rfl, rfl, by omega, fun c hc => by
                simp only [List.mem_append, List.mem_singleton] at hc
                rcases hc with hc | hc
                · exact HU5.out c hc
                · omega, by simp only [List.length_append, List.length_singleton]; have := HL5.out; omega, HB5.out⟩
              go_wp2
              go_roundw
              case rel => exact HFI.out
              case measure => simp [intOf]; omega
          · have h40I : ¬ (n5 : Int) < 40 := by omega
            obtain ⟨w5, hw5⟩ : ∃ w5, w5 = w2 := ⟨_, rfl⟩
            obtain ⟨u5, hu5⟩ : ∃ u5, u5 = u := ⟨_, rfl⟩
            subst hw5 hu5
            have HB5 := HB2
            have HBA := HBA2
            have HU5 := HUB
            have HL5 : Hid (u5.length ≤ 400 + k * 6400 + 6310) := Lib.hid (by have := HUL.out; omega)
            clear hA hbl hW4 hmay HS2 HS1 HB2 HBA2 HUL HUB HMY HE4 HZ4 HB4 hlt2 g0 g1 g2 g3 g4 g5 hkd hy1 hy2 hy3 hy4
            by_cases hk2 : k < n2
            · obtain ⟨b2, o2, rfl, hb2, hc2⟩ := HS.out (by omega)
              obtain ⟨q0, q1⟩ := hc2 k hk2
              have p0 : w5.cell? ⟨b2, o2 + k, none⟩ = some (.string (str (L k))) := (HBA.out.cell (p := ⟨b2, o2 + k, none⟩) hb2).trans q0
              have hk2I : (k : Int) < (n2 : Int) := by omega
              have hsL := str_size (L k)
              have HQ1 := Lib.hid q1
              clear hc2 q0 q1
              generalize L k = Lk at *
              by_cases h20 : Lk.length < 20
              · have h20I : (Lk.length : Int) < 20 := by omega
                have hsu := str_size u5
                have hsx : (str u5).size + (str Lk).size ≤ 9223372036854775807 := by rw [hsu, hsL]; have := HL5.out; have := HF.out; omega
                have happ := str_app u5 Lk
                have hs3 := str_size (u5 ++ Lk)
                have hl3 : (u5 ++ Lk).length = u5.length + Lk.length := List.length_append
                have hsy : (str (u5 ++ Lk)).size + 1 ≤ 9223372036854775807 := by rw [hs3, hl3]; have := HL5.out; have := HF.out; omega
                have hnl : str (u5 ++ Lk) ++ (⟨#[10]⟩ : ByteArray) = str (u5 ++ Lk ++ [10]) := str_app (u5 ++ Lk) [10]
                have HFI : Hid (LpR w1 m (.int .i64 ((k : Int) + 1)) (.string (str (u5 ++ (Lk ++ [10])))) w5) := Lib.hid ⟨k + 1, _, rfl, rfl, by omega, fun c hc => by
                  simp only [List.mem_append, List.mem_singleton] at hc
                  rcases hc with hc | hc | hc
                  · exact HU5.out c hc
                  · exact HQ1.out c hc
                  · omega, by simp only [List.length_append, List.length_singleton]; have := HL5.out; omega, HB5.out⟩
                skip
                go_wp2
                go_roundw
                case rel => exact HFI.out
                case measure => simp [intOf]; omega
              · have h20I : ¬ (Lk.length : Int) < 20 := by omega
                have hsu := str_size u5
                have hsy : (str u5).size + 1 ≤ 9223372036854775807 := by rw [hsu]; have := HL5.out; have := HF.out; omega
                have hnl : str u5 ++ (⟨#[10]⟩ : ByteArray) = str (u5 ++ [10]) := str_app u5 [10]
                have HFI : Hid (LpR w1 m (.int .i64 ((k : Int) + 1)) (.string (str (u5 ++ [10]))) w5) := Lib.hid ⟨k + 1, _, rfl, rfl, by omega, fun c hc => by
                  simp only [List.mem_append, List.mem_singleton] at hc
                  rcases hc with hc | hc
                  · exact HU5.out c hc
                  · omega, by simp only [List.length_append, List.length_singleton]; have := HL5.out; omega, HB5.out⟩
                go_wp2
                go_roundw
                case rel => exact HFI.out
                case measure => simp [intOf]; omega
            · have hk2I : ¬ (k : Int) < (n2 : Int) := by omega
              have hsu := str_size u5
              have hsy : (str u5).size + 1 ≤ 9223372036854775807 := by rw [hsu]; have := HL5.out; have := HF.out; omega
              have hnl : str u5 ++ (⟨#[10]⟩ : ByteArray) = str (u5 ++ [10]) := str_app u5 [10]
              have HFI : Hid (LpR w1 m (.int .i64 ((k : Int) + 1)) (.string (str (u5 ++ [10]))) w5) := Lib.hid ⟨k + 1, _, rfl, rfl, by omega, fun c hc => by
                simp only [List.mem_append, List.mem_singleton] at hc
                rcases hc with hc | hc
                · exact HU5.out c hc
                · omega, by simp only [List.length_append, List.length_singleton]; have := HL5.out; omega, HB5.out⟩
              go_wp2
              go_roundw
              case rel => exact HFI.out
              case measure => simp [intOf]; omega
      · obtain rfl : k = m := by omega
        have HUB : Hid (∀ c ∈ u, c < 256) := Lib.hid hub
        have HUI : Hid (∀ i, u.getD i 0 < 256) := Lib.hid (fun i => getD_mem (Q := fun c => c < 256) (by omega) hub i)
        have HL9 : Hid (u.length ≤ 90000) := Lib.hid (by have := HF.out; omega)
        have HKR : Hid (Kn wr) := Lib.hid ((HK.out.below hbw1).below hb)
        have HBW : Hid (Below w.heap.size w wr) := Lib.hid (hbw1.trans (hb.mono hbw1.size))
        have HPL := Lib.hid (parse_len u)
        have HPB := Lib.hid (parse_b u)
        clear hub hul hb
        go_wp2_with fail
        refine (lparse_any u HUB.out HL9.out wr HKR.out).mono ?_
        rintro e w3 ⟨v3, l3, k3, er3, rfl, hb3, ho3, hp3, he0, he1⟩
        rw [hp3] at HPL HPB
        have HB3 : Hid (Below w.heap.size w w3) := Lib.hid (HBW.out.trans (hb3.mono HBW.out.size))
        have HK3 : Hid (Kn w3) := Lib.hid (HKR.out.below hb3)
        have HO3 := Lib.hid ho3
        have HP3 := Lib.hid hp3
        have HWR := Lib.hid hb3.size
        have HE0 := Lib.hid he0
        have HE1 := Lib.hid he1
        clear hb3 ho3 hp3 he0 he1
        go_wp2_with fail
        refine (rparse31_any u HUI.out HL9.out w3).mono ?_
        rintro e w4 ⟨v4, l4, k4, rfl, hb4, ho4, hp4⟩
        obtain ⟨rfl, rfl⟩ : l3 = l4 ∧ k3 = k4 := by have h := HP3.out.symm.trans hp4; injection h with h1 h2; exact ⟨h1, h2⟩
        have HB4 : Hid (Below w.heap.size w w4) := Lib.hid (HB3.out.trans (hb4.mono HB3.out.size))
        have HK4 : Hid (Kn w4) := Lib.hid (HK3.out.below hb4)
        by_cases hk0 : k3 = 0
        · subst hk0
          obtain rfl := HE0.out rfl
          have HKA : Hid (∀ W, Below w4.heap.size w4 W → Kn W) := Lib.hid (fun W h => HK4.out.below h)
          obtain ⟨A6, c6, rfl, hv6, _, _, _⟩ := HO3.out.acV (Nat.le_refl _) HWR.out
          obtain ⟨A7, c7, rfl, hv7, _, _, _⟩ := ho4.acV (Nat.le_refl _) hb4.size
          obtain ⟨n6, hn6⟩ : ∃ n6, l3.length = n6 := ⟨_, rfl⟩
          rw [hn6] at hv6 hv7
          have HV6 : Hid (AcV w4 A6 n6 l3) := Lib.hid (hv6.below hb4)
          have HV7 : Hid (AcV w4 A7 n6 l3) := Lib.hid hv7
          have HN6 : Hid (n6 < 100000) := Lib.hid (by have := HPL.out; have := HL9.out; omega)
          have HPP : Hid (Calls Tryd.prog 15 #[.slice A6 n6 c6] w4 (GivesA 26 w4 l3)) := Lib.hid (plain27_any A6 n6 c6 l3 w4 HV6.out HN6.out (fun i => by have := HPB.out i; omega))
          clear ho4 hb4 hp4 hv6 hv7 HO3 HE0 HE1
          rw [hn6]
          have HN6E := Lib.hid hn6
          clear hn6
          go_wp2_with fail
          refine HPP.out.mono ?_
          rintro e w5 ⟨v5, rfl, ho5, hb5⟩
          obtain ⟨A8, c8, rfl, hv8, _, _, _⟩ := ho5.acV (Nat.le_refl _) hb5.size
          have HB5 : Hid (Below w.heap.size w w5) := Lib.hid (HB4.out.trans (hb5.mono HB4.out.size))
          have HK5 : Hid (Kn w5) := Lib.hid (HK4.out.below hb5)
          have HV8 : Hid (AcV w5 A8 n6 l3) := Lib.hid (by rw [← HN6E.out]; exact hv8)
          have HV9 : Hid (AcV w5 A7 n6 l3) := Lib.hid (HV7.out.below hb5)
          have e9 : allF false l3 l3 = true := (allF_iff l3 l3).2 rfl
          have HAL := Lib.hid (rall27_any A8 A7 n6 c8 n6 c7 l3 l3 false w5 HV8.out HV9.out HN6.out HN6.out)
          rw [e9] at HAL
          rw [HN6E.out]
          clear ho5 hb5 hv8 e9
          go_wp2_with fail
          refine HAL.out.mono ?_
          rintro e w6 ⟨rfl, hb6⟩
          have HB6 : Hid (Below w.heap.size w w6) := Lib.hid (HB5.out.trans (hb6.mono HB5.out.size))
          have HAW := Lib.hid (awake31_any w6 (HK5.out.below hb6))
          clear hb6
          go_wp2_with fail
          refine HAW.out.mono ?_
          rintro e w7 ⟨rfl, hb7⟩
          have HB7 : Hid (Below w.heap.size w w7) := Lib.hid (HB6.out.trans (hb7.mono HB6.out.size))
          clear hb7
          go_wp2
          go_ret
          exact ⟨rfl, HB7.out⟩
        · obtain ⟨rfl, rfl⟩ := HE1.out hk0
          have hkI : (0 : Int) < (k3 : Int) := by omega
          have HAW := Lib.hid (awake31_any w4 HK4.out)
          clear ho4 hb4 hp4 HO3 HE0 HE1
          go_wp2_with fail
          refine HAW.out.mono ?_
          rintro e w7 ⟨rfl, hb7⟩
          have HB7 : Hid (Below w.heap.size w w7) := Lib.hid (HB4.out.trans (hb7.mono HB4.out.size))
          clear hb7
          go_wp2
          go_ret
          exact ⟨rfl, HB7.out⟩
  · have hlenI : ¬ (400 : Int) < (l0.length : Int) := by omega
    have HU : Hid (∀ c ∈ l0, c < 256) := Lib.hid (fun c hc => HB0.out c hc)
    have HUL : Hid (l0.length ≤ 400) := Lib.hid (by omega)
    go_enter Tryd.func4, Tryd.ntmps4
    go_wp2_with fail
    refine HC.out.mono ?_
    rintro e w1 ⟨v1, rfl, ho1, hbw1⟩
    obtain ⟨A3, c3, rfl, hv1, _, _, _⟩ := ho1.acV (Nat.le_refl _) hbw1.size
    obtain ⟨m, hm⟩ : ∃ m, cl.length = m := ⟨_, rfl⟩
    have HV1 : Hid (AcV w1 A3 m cl) := Lib.hid (by rw [← hm]; exact hv1)
    rw [hm] at HF HFB ⊢
    have HR0 : Hid (LpR w1 m (.int .i64 0) (.string (str l0)) w1) := Lib.hid ⟨0, _, rfl, rfl, by omega, HU.out, by have := HUL.out; omega, Below.refl _ _⟩
    have HBY := Lib.hid (fun i => HV1.out.byte i)
    have hm9 : m ≤ 6 := HF.out
    clear ho1 hv1 hm HC HU HUL hsz HB0
    go_wp2_with fail
    go_loopw [22, 0] (fun iv sv wr => LpR w1 m iv sv wr) (fun iv _ _ => (m - intOf iv).toNat)
    case atStart => exact HR0.out
    case round =>
      clear HR0
      obtain ⟨k, u, rfl, rfl, hk, hub, hul, hb⟩ := hrel
      by_cases hlt : k < m
      · have HB := Lib.hid hb
        have HUB := Lib.hid hub
        have HUL := Lib.hid hul
        clear hub hul hb
        obtain ⟨b, o, A5, c5, rfl, hb0, q0, q1, q2, q3, q4, q5, q6, hs1, hz1⟩ := HV1.out.at_ (show k < m by omega)
        have p0 : wr.cell? ⟨b, o + k * 7, none⟩ = some (.int .i64 (aAt cl k).kind) := (HB.out.cell (p := ⟨b, o + k * 7, none⟩) hb0).trans q0
        have p1 : wr.cell? ⟨b, o + k * 7 + 1, none⟩ = some (.bool (aAt cl k).yes) := (HB.out.cell (p := ⟨b, o + k * 7 + 1, none⟩) hb0).trans q1
        have p2 : wr.cell? ⟨b, o + k * 7 + 2, none⟩ = some (.int .i64 (aAt cl k).which) := (HB.out.cell (p := ⟨b, o + k * 7 + 2, none⟩) hb0).trans q2
        have p3 : wr.cell? ⟨b, o + k * 7 + 3, none⟩ = some (.int .i64 (aAt cl k).k) := (HB.out.cell (p := ⟨b, o + k * 7 + 3, none⟩) hb0).trans q3
        have p4 : wr.cell? ⟨b, o + k * 7 + 4, none⟩ = some (.int .i64 (aAt cl k).n) := (HB.out.cell (p := ⟨b, o + k * 7 + 4, none⟩) hb0).trans q4
        have p5 : wr.cell? ⟨b, o + k * 7 + 5, none⟩ = some (.int .i64 (aAt cl k).pos) := (HB.out.cell (p := ⟨b, o + k * 7 + 5, none⟩) hb0).trans q5
        have p6 : wr.cell? ⟨b, o + k * 7 + 6, none⟩ = some (.slice A5 (aAt cl k).b.length c5) := (HB.out.cell (p := ⟨b, o + k * 7 + 6, none⟩) hb0).trans q6
        have hlt1 : b < wr.heap.size := Nat.lt_of_lt_of_le hb0 HB.out.size
        have HBB := Lib.hid (HBY.out k)
        have HBL := Lib.hid (HFB.out k hlt)
        have HAM : Hid (∀ K y z1 z2 z3 z4 bb, aAt cl k = ⟨K, y, z1, z2, z3, z4, bb⟩ → True) := Lib.hid (fun _ _ _ _ _ _ _ _ => trivial)
        obtain ⟨bb, hbb⟩ : ∃ bb, (aAt cl k).b = bb := ⟨_, rfl⟩
        rw [hbb] at p6 hs1 HBB HBL
        obtain ⟨n5, hn5⟩ : ∃ n5, bb.length = n5 := ⟨_, rfl⟩
        have HN5 := Lib.hid hn5
        rw [hn5] at p6 hs1 HBL
        have HS1 := Lib.hid hs1
        clear q0 q1 q2 q3 q4 q5 q6 hs1 hz1 hb0 hbb hn5
        generalize (aAt cl k).kind = K at *
        generalize (aAt cl k).yes = y at *
        generalize (aAt cl k).which = z1 at *
        generalize (aAt cl k).k = z2 at *
        generalize (aAt cl k).n = z3 at *
        generalize (aAt cl k).pos = z4 at *
        have HB4 : Hid (Below wr.heap.size wr (wr.alloc (.cells #[.int .i64 K, .bool y, .int .i64 z1, .int .i64 z2, .int .i64 z3, .int .i64 z4, .slice A5 n5 c5] 26))) := Lib.hid (al1 _ _)
        have HE4 : Hid ((wr.alloc (.cells #[.int .i64 K, .bool y, .int .i64 z1, .int .i64 z2, .int .i64 z3, .int .i64 z4, .slice A5 n5 c5] 26)).heap[wr.heap.size]? = some (.cells #[.int .i64 K, .bool y, .int .i64 z1, .int .i64 z2, .int .i64 z3, .int .i64 z4, .slice A5 n5 c5] 26 (0, 0))) := Lib.hid (heap_alloc_new _ _)
        have HZ4 : Hid (wr.heap.size < (wr.alloc (.cells #[.int .i64 K, .bool y, .int .i64 z1, .int .i64 z2, .int .i64 z3, .int .i64 z4, .slice A5 n5 c5] 26)).heap.size) := Lib.hid (by simp)
        have HMY := Lib.hid (rmay31_any K y z1 z2 z3 z4 A5 n5 c5 bb HN5.out (by have := HBL.out; omega) (wr.alloc (.cells #[.int .i64 K, .bool y, .int .i64 z1, .int .i64 z2, .int .i64 z3, .int .i64 z4, .slice A5 n5 c5] 26)))
        generalize hW4 : wr.alloc (.cells #[.int .i64 K, .bool y, .int .i64 z1, .int .i64 z2, .int .i64 z3, .int .i64 z4, .slice A5 n5 c5] 26) = W4 at *
        have g0 : W4.cell? ⟨wr.heap.size, 0, none⟩ = some (.int .i64 K) := blk_cell HE4.out 0
        have g1 : W4.cell? ⟨wr.heap.size, 1, none⟩ = some (.bool y) := blk_cell HE4.out 1
        have g2 : W4.cell? ⟨wr.heap.size, 2, none⟩ = some (.int .i64 z1) := blk_cell HE4.out 2
        have g3 : W4.cell? ⟨wr.heap.size, 3, none⟩ = some (.int .i64 z2) := blk_cell HE4.out 3
        have g4 : W4.cell? ⟨wr.heap.size, 4, none⟩ = some (.int .i64 z3) := blk_cell HE4.out 4
        have g5 : W4.cell? ⟨wr.heap.size, 5, none⟩ = some (.int .i64 z4) := blk_cell HE4.out 5
        have g6 : W4.cell? ⟨wr.heap.size, 6, none⟩ = some (.slice A5 n5 c5) := blk_cell HE4.out 6
        clear HAM
        go_wp2_with fail
        refine HMY.out.mono ?_
        rintro e w2 ⟨rfl, hb2⟩
        have HB2 : Hid (Below w1.heap.size w1 w2) := Lib.hid (HB.out.trans ((HB4.out.trans (hb2.mono HB4.out.size)).mono HB.out.size))
        have HBA2 : Hid (Below w.heap.size w w2) := Lib.hid (hbw1.trans (HB2.out.mono hbw1.size))
        clear g0 g1 g2 g3 g4 g5 g6
        have hlt2 : wr.heap.size < W4.heap.size := HZ4.out
        have g0 : w2.cell? ⟨wr.heap.size, 0, none⟩ = some (.int .i64 K) := (hb2.cell (p := ⟨wr.heap.size, 0, none⟩) hlt2).trans (blk_cell HE4.out 0)
        have g1 : w2.cell? ⟨wr.heap.size, 1, none⟩ = some (.bool y) := (hb2.cell (p := ⟨wr.heap.size, 1, none⟩) hlt2).trans (blk_cell HE4.out 1)
        have g2 : w2.cell? ⟨wr.heap.size, 2, none⟩ = some (.int .i64 z1) := (hb2.cell (p := ⟨wr.heap.size, 2, none⟩) hlt2).trans (blk_cell HE4.out 2)
        have g3 : w2.cell? ⟨wr.heap.size, 3, none⟩ = some (.int .i64 z2) := (hb2.cell (p := ⟨wr.heap.size, 3, none⟩) hlt2).trans (blk_cell HE4.out 3)
        have g4 : w2.cell? ⟨wr.heap.size, 4, none⟩ = some (.int .i64 z3) := (hb2.cell (p := ⟨wr.heap.size, 4, none⟩) hlt2).trans (blk_cell HE4.out 4)
        have g5 : w2.cell? ⟨wr.heap.size, 5, none⟩ = some (.int .i64 z4) := (hb2.cell (p := ⟨wr.heap.size, 5, none⟩) hlt2).trans (blk_cell HE4.out 5)
        have g6 : w2.cell? ⟨wr.heap.size, 6, none⟩ = some (.slice A5 n5 c5) := (hb2.cell (p := ⟨wr.heap.size, 6, none⟩) hlt2).trans (blk_cell HE4.out 6)
        have HS2 : Hid (BS w2 w2.heap.size A5 n5 c5 bb) := Lib.hid ((HS1.out.below HB2.out).more HB2.out.size)
        clear hb2 p0 p1 p2 p3 p4 p5 p6
        cases hmay : mayLn ⟨K, y, z1, z2, z3, z4, bb⟩ with
        | false =>
          obtain ⟨w5, hw5⟩ : ∃ w5, w5 = w2 := ⟨_, rfl⟩
          obtain ⟨u5, hu5⟩ : ∃ u5, u5 = u := ⟨_, rfl⟩
          subst hw5 hu5
          have HB5 := HB2
          have HBA := HBA2
          have HU5 := HUB
          have HL5 : Hid (u5.length ≤ 400 + k * 6400 + 6310) := Lib.hid (by have := HUL.out; omega)
          clear g0 g1 g2 g3 g4 g5 g6 hW4 hmay HS2 HS1 HB2 HBA2 HUL HUB HMY HE4 HZ4 HB4 hlt2
          by_cases hk2 : k < n2
          · obtain ⟨b2, o2, rfl, hb2, hc2⟩ := HS.out (by omega)
            obtain ⟨q0, q1⟩ := hc2 k hk2
            have p0 : w5.cell? ⟨b2, o2 + k, none⟩ = some (.string (str (L k))) := (HBA.out.cell (p := ⟨b2, o2 + k, none⟩) hb2).trans q0
            have hk2I : (k : Int) < (n2 : Int) := by omega
            have hsL := str_size (L k)
            have HQ1 := Lib.hid q1
            clear hc2 q0 q1
            generalize L k = Lk at *
            by_cases h20 : Lk.length < 20
            · have h20I : (Lk.length : Int) < 20 := by omega
              have hsu := str_size u5
              have hsx : (str u5).size + (str Lk).size ≤ 9223372036854775807 := by rw [hsu, hsL]; have := HL5.out; have := HF.out; omega
              have happ := str_app u5 Lk
              have hs3 := str_size (u5 ++ Lk)
              have hl3 : (u5 ++ Lk).length = u5.length + Lk.length := List.length_append
              have hsy : (str (u5 ++ Lk)).size + 1 ≤ 9223372036854775807 := by rw [hs3, hl3]; have := HL5.out; have := HF.out; omega
              have hnl : str (u5 ++ Lk) ++ (⟨#[10]⟩ : ByteArray) = str (u5 ++ Lk ++ [10]) := str_app (u5 ++ Lk) [10]
              have HFI : Hid (LpR w1 m (.int .i64 ((k : Int) + 1)) (.string (str (u5 ++ (Lk ++ [10])))) w5) := Lib.hid ⟨k + 1, _, rfl, rfl, by omega, fun c hc => by
                simp only [List.mem_append, List.mem_singleton] at hc
                rcases hc with hc | hc | hc
                · exact HU5.out c hc
                · exact HQ1.out c hc
                · omega, by simp only [List.length_append, List.length_singleton]; have := HL5.out; omega, HB5.out⟩
              skip
              go_wp2
              go_roundw
              case rel => exact HFI.out
              case measure => simp [intOf]; omega
            · have h20I : ¬ (Lk.length : Int) < 20 := by omega
              have hsu := str_size u5
              have hsy : (str u5).size + 1 ≤ 9223372036854775807 := by rw [hsu]; have := HL5.out; have := HF.out; omega
              have hnl : str u5 ++ (⟨#[10]⟩ : ByteArray) = str (u5 ++ [10]) := str_app u5 [10]
              have HFI : Hid (LpR w1 m (.int .i64 ((k : Int) + 1)) (.string (str (u5 ++ [10]))) w5) := Lib.hid ⟨k + 1, _, rfl, rfl, by omega, fun c hc => by
                simp only [List.mem_append, List.mem_singleton] at hc
                rcases hc with hc | hc
                · exact HU5.out c hc
                · omega, by simp only [List.length_append, List.length_singleton]; have := HL5.out; omega, HB5.out⟩
              go_wp2
              go_roundw
              case rel => exact HFI.out
              case measure => simp [intOf]; omega
          · have hk2I : ¬ (k : Int) < (n2 : Int) := by omega
            have hsu := str_size u5
            have hsy : (str u5).size + 1 ≤ 9223372036854775807 := by rw [hsu]; have := HL5.out; have := HF.out; omega
            have hnl : str u5 ++ (⟨#[10]⟩ : ByteArray) = str (u5 ++ [10]) := str_app u5 [10]
            have HFI : Hid (LpR w1 m (.int .i64 ((k : Int) + 1)) (.string (str (u5 ++ [10]))) w5) := Lib.hid ⟨k + 1, _, rfl, rfl, by omega, fun c hc => by
              simp only [List.mem_append, List.mem_singleton] at hc
              rcases hc with hc | hc
              · exact HU5.out c hc
              · omega, by simp only [List.length_append, List.length_singleton]; have := HL5.out; omega, HB5.out⟩
            go_wp2
            go_roundw
            case rel => exact HFI.out
            case measure => simp [intOf]; omega
        | true =>
          have hA : mayA ⟨K, y, z1, z2, z3, z4, bb⟩ = true := by unfold mayLn at hmay; rw [Bool.and_eq_true] at hmay; exact hmay.1
          obtain ⟨kd, y1, y2, y3, y4, hkd, hy1, hy2, hy3, hy4, hbl, e0, e1, e2, e3, e4⟩ := mayA_nat hA
          dsimp only at e0 e1 e2 e3 e4
          subst e0 e1 e2 e3 e4
          by_cases h40 : n5 < 40
          · have h40I : (n5 : Int) < 40 := by omega
            have HLN := Lib.hid (rline_any kd y1 y2 y3 y4 y A5 n5 c5 bb w2 hkd (by omega) (by omega) (by omega) (by omega) HS2.out (by omega))
            have HLL := Lib.hid (lineA_len hmay)
            have HLB := Lib.hid (lineA_byte hmay (mem_getD HBB.out))
            generalize lineA ⟨kd, y, y1, y2, y3, y4, bb⟩ = la at *
            clear hA hbl hW4 hmay HS2 HS1 HMY HE4 HZ4 HB4 hlt2 hkd hy1 hy2 hy3 hy4
            go_wp2_with fail
            refine HLN.out.mono ?_
            rintro e w5 ⟨rfl, hb5⟩
            have HB5 : Hid (Below w1.heap.size w1 w5) := Lib.hid (HB2.out.trans (hb5.mono HB2.out.size))
            have HBA : Hid (Below w.heap.size w w5) := Lib.hid (hbw1.trans (HB5.out.mono hbw1.size))
            have hsu0 := str_size u
            have hsl0 := str_size la
            have hsx0 : (str u).size + (str la).size ≤ 9223372036854775807 := by rw [hsu0, hsl0]; have := HUL.out; have := HLL.out; have := HF.out; omega
            obtain ⟨u5, hu5⟩ : ∃ u5, u ++ la = u5 := ⟨_, rfl⟩
            have happ0 : str u ++ str la = str u5 := by rw [← hu5]; exact str_app u la
            have HU5 : Hid (∀ c ∈ u5, c < 256) := Lib.hid (fun c hc => by
              rw [← hu5, List.mem_append] at hc
              rcases hc with hc | hc
              · exact HUB.out c hc
              · exact HLB.out c hc)
            have HL5 : Hid (u5.length ≤ 400 + k * 6400 + 6310) := Lib.hid (by rw [← hu5, List.length_append]; have := HUL.out; have := HLL.out; omega)
            clear g0 g1 g2 g3 g4 g5 g6 hb5 HB2 HBA2 HUL HUB HLN hu5
            by_cases hk2 : k < n2
            · obtain ⟨b2, o2, rfl, hb2, hc2⟩ := HS.out (by omega)
              obtain ⟨q0, q1⟩ := hc2 k hk2
              have p0 : w5.cell? ⟨b2, o2 + k, none⟩ = some (.string (str (L k))) := (HBA.out.cell (p := ⟨b2, o2 + k, none⟩) hb2).trans q0
              have hk2I : (k : Int) < (n2 : Int) := by omega
              have hsL := str_size (L k)
              have HQ1 := Lib.hid q1
              clear hc2 q0 q1
              generalize L k = Lk at *
              by_cases h20 : Lk.length < 20
              · have h20I : (Lk.length : Int) < 20 := by omega
                have hsu := str_size u5
                have hsx : (str u5).size + (str Lk).size ≤ 9223372036854775807 := by rw [hsu, hsL]; have := HL5.out; have := HF.out; omega
                have happ := str_app u5 Lk
                have hs3 := str_size (u5 ++ Lk)
                have hl3 : (u5 ++ Lk).length = u5.length + Lk.length := List.length_append
                have hsy : (str (u5 ++ Lk)).size + 1 ≤ 9223372036854775807 := by rw [hs3, hl3]; have := HL5.out; have := HF.out; omega
                have hnl : str (u5 ++ Lk) ++ (⟨#[10]⟩ : ByteArray) = str (u5 ++ Lk ++ [10]) := str_app (u5 ++ Lk) [10]
                have HFI : Hid (LpR w1 m (.int .i64 ((k : Int) + 1)) (.string (str (u5 ++ (Lk ++ [10])))) w5) := Lib.hid ⟨k + 1, _, rfl, rfl, by omega, fun c hc => by
                  simp only [List.mem_append, List.mem_singleton] at hc
                  rcases hc with hc | hc | hc
                  · exact HU5.out c hc
                  · exact HQ1.out c hc
                  · omega, by simp only [List.length_append, List.length_singleton]; have := HL5.out; omega, HB5.out⟩
                skip
                go_wp2
                go_roundw
                case rel => exact HFI.out
                case measure => simp [intOf]; omega
              · have h20I : ¬ (Lk.length : Int) < 20 := by omega
                have hsu := str_size u5
                have hsy : (str u5).size + 1 ≤ 9223372036854775807 := by rw [hsu]; have := HL5.out; have := HF.out; omega
                have hnl : str u5 ++ (⟨#[10]⟩ : ByteArray) = str (u5 ++ [10]) := str_app u5 [10]
                have HFI : Hid (LpR w1 m (.int .i64 ((k : Int) + 1)) (.string (str (u5 ++ [10]))) w5) := Lib.hid ⟨k + 1, _, rfl, rfl, by omega, fun c hc => by
                  simp only [List.mem_append, List.mem_singleton] at hc
                  rcases hc with hc | hc
                  · exact HU5.out c hc
                  · omega, by simp only [List.length_append, List.length_singleton]; have := HL5.out; omega, HB5.out⟩
                go_wp2
                go_roundw
                case rel => exact HFI.out
                case measure => simp [intOf]; omega
            · have hk2I : ¬ (k : Int) < (n2 : Int) := by omega
              have hsu := str_size u5
              have hsy : (str u5).size + 1 ≤ 9223372036854775807 := by rw [hsu]; have := HL5.out; have := HF.out; omega
              have hnl : str u5 ++ (⟨#[10]⟩ : ByteArray) = str (u5 ++ [10]) := str_app u5 [10]
              have HFI : Hid (LpR w1 m (.int .i64 ((k : Int) + 1)) (.string (str (u5 ++ [10]))) w5) := Lib.hid ⟨k + 1, _, rfl, rfl, by omega, fun c hc => by
                simp only [List.mem_append, List.mem_singleton] at hc
                rcases hc with hc | hc
                · exact HU5.out c hc
                · omega, by simp only [List.length_append, List.length_singleton]; have := HL5.out; omega, HB5.out⟩
              go_wp2
              go_roundw
              case rel => exact HFI.out
              case measure => simp [intOf]; omega
          · have h40I : ¬ (n5 : Int) < 40 := by omega
            obtain ⟨w5, hw5⟩ : ∃ w5, w5 = w2 := ⟨_, rfl⟩
            obtain ⟨u5, hu5⟩ : ∃ u5, u5 = u := ⟨_, rfl⟩
            subst hw5 hu5
            have HB5 := HB2
            have HBA := HBA2
            have HU5 := HUB
            have HL5 : Hid (u5.length ≤ 400 + k * 6400 + 6310) := Lib.hid (by have := HUL.out; omega)
            clear hA hbl hW4 hmay HS2 HS1 HB2 HBA2 HUL HUB HMY HE4 HZ4 HB4 hlt2 g0 g1 g2 g3 g4 g5 hkd hy1 hy2 hy3 hy4
            by_cases hk2 : k < n2
            · obtain ⟨b2, o2, rfl, hb2, hc2⟩ := HS.out (by omega)
              obtain ⟨q0, q1⟩ := hc2 k hk2
              have p0 : w5.cell? ⟨b2, o2 + k, none⟩ = some (.string (str (L k))) := (HBA.out.cell (p := ⟨b2, o2 + k, none⟩) hb2).trans q0
              have hk2I : (k : Int) < (n2 : Int) := by omega
              have hsL := str_size (L k)
              have HQ1 := Lib.hid q1
              clear hc2 q0 q1
              generalize L k = Lk at *
              by_cases h20 : Lk.length < 20
              · have h20I : (Lk.length : Int) < 20 := by omega
                have hsu := str_size u5
                have hsx : (str u5).size + (str Lk).size ≤ 9223372036854775807 := by rw [hsu, hsL]; have := HL5.out; have := HF.out; omega
                have happ := str_app u5 Lk
                have hs3 := str_size (u5 ++ Lk)
                have hl3 : (u5 ++ Lk).length = u5.length + Lk.length := List.length_append
                have hsy : (str (u5 ++ Lk)).size + 1 ≤ 9223372036854775807 := by rw [hs3, hl3]; have := HL5.out; have := HF.out; omega
                have hnl : str (u5 ++ Lk) ++ (⟨#[10]⟩ : ByteArray) = str (u5 ++ Lk ++ [10]) := str_app (u5 ++ Lk) [10]
                have HFI : Hid (LpR w1 m (.int .i64 ((k : Int) + 1)) (.string (str (u5 ++ (Lk ++ [10])))) w5) := Lib.hid ⟨k + 1, _, rfl, rfl, by omega, fun c hc => by
                  simp only [List.mem_append, List.mem_singleton] at hc
                  rcases hc with hc | hc | hc
                  · exact HU5.out c hc
                  · exact HQ1.out c hc
                  · omega, by simp only [List.length_append, List.length_singleton]; have := HL5.out; omega, HB5.out⟩
                skip
                go_wp2
                go_roundw
                case rel => exact HFI.out
                case measure => simp [intOf]; omega
              · have h20I : ¬ (Lk.length : Int) < 20 := by omega
                have hsu := str_size u5
                have hsy : (str u5).size + 1 ≤ 9223372036854775807 := by rw [hsu]; have := HL5.out; have := HF.out; omega
                have hnl : str u5 ++ (⟨#[10]⟩ : ByteArray) = str (u5 ++ [10]) := str_app u5 [10]
                have HFI : Hid (LpR w1 m (.int .i64 ((k : Int) + 1)) (.string (str (u5 ++ [10]))) w5) := Lib.hid ⟨k + 1, _, rfl, rfl, by omega, fun c hc => by
                  simp only [List.mem_append, List.mem_singleton] at hc
                  rcases hc with hc | hc
                  · exact HU5.out c hc
                  · omega, by simp only [List.length_append, List.length_singleton]; have := HL5.out; omega, HB5.out⟩
                go_wp2
                go_roundw
                case rel => exact HFI.out
                case measure => simp [intOf]; omega
            · have hk2I : ¬ (k : Int) < (n2 : Int) := by omega
              have hsu := str_size u5
              have hsy : (str u5).size + 1 ≤ 9223372036854775807 := by rw [hsu]; have := HL5.out; have := HF.out; omega
              have hnl : str u5 ++ (⟨#[10]⟩ : ByteArray) = str (u5 ++ [10]) := str_app u5 [10]
              have HFI : Hid (LpR w1 m (.int .i64 ((k : Int) + 1)) (.string (str (u5 ++ [10]))) w5) := Lib.hid ⟨k + 1, _, rfl, rfl, by omega, fun c hc => by
                simp only [List.mem_append, List.mem_singleton] at hc
                rcases hc with hc | hc
                · exact HU5.out c hc
                · omega, by simp only [List.length_append, List.length_singleton]; have := HL5.out; omega, HB5.out⟩
              go_wp2
              go_roundw
              case rel => exact HFI.out
              case measure => simp [intOf]; omega
      · obtain rfl : k = m := by omega
        have HUB : Hid (∀ c ∈ u, c < 256) := Lib.hid hub
        have HUI : Hid (∀ i, u.getD i 0 < 256) := Lib.hid (fun i => getD_mem (Q := fun c => c < 256) (by omega) hub i)
        have HL9 : Hid (u.length ≤ 90000) := Lib.hid (by have := HF.out; omega)
        have HKR : Hid (Kn wr) := Lib.hid ((HK.out.below hbw1).below hb)
        have HBW : Hid (Below w.heap.size w wr) := Lib.hid (hbw1.trans (hb.mono hbw1.size))
        have HPL := Lib.hid (parse_len u)
        have HPB := Lib.hid (parse_b u)
        clear hub hul hb
        go_wp2_with fail
        refine (lparse_any u HUB.out HL9.out wr HKR.out).mono ?_
        rintro e w3 ⟨v3, l3, k3, er3, rfl, hb3, ho3, hp3, he0, he1⟩
        rw [hp3] at HPL HPB
        have HB3 : Hid (Below w.heap.size w w3) := Lib.hid (HBW.out.trans (hb3.mono HBW.out.size))
        have HK3 : Hid (Kn w3) := Lib.hid (HKR.out.below hb3)
        have HO3 := Lib.hid ho3
        have HP3 := Lib.hid hp3
        have HWR := Lib.hid hb3.size
        have HE0 := Lib.hid he0
        have HE1 := Lib.hid he1
        clear hb3 ho3 hp3 he0 he1
        go_wp2_with fail
        refine (rparse31_any u HUI.out HL9.out w3).mono ?_
        rintro e w4 ⟨v4, l4, k4, rfl, hb4, ho4, hp4⟩
        obtain ⟨rfl, rfl⟩ : l3 = l4 ∧ k3 = k4 := by have h := HP3.out.symm.trans hp4; injection h with h1 h2; exact ⟨h1, h2⟩
        have HB4 : Hid (Below w.heap.size w w4) := Lib.hid (HB3.out.trans (hb4.mono HB3.out.size))
        have HK4 : Hid (Kn w4) := Lib.hid (HK3.out.below hb4)
        by_cases hk0 : k3 = 0
        · subst hk0
          obtain rfl := HE0.out rfl
          have HKA : Hid (∀ W, Below w4.heap.size w4 W → Kn W) := Lib.hid (fun W h => HK4.out.below h)
          obtain ⟨A6, c6, rfl, hv6, _, _, _⟩ := HO3.out.acV (Nat.le_refl _) HWR.out
          obtain ⟨A7, c7, rfl, hv7, _, _, _⟩ := ho4.acV (Nat.le_refl _) hb4.size
          obtain ⟨n6, hn6⟩ : ∃ n6, l3.length = n6 := ⟨_, rfl⟩
          rw [hn6] at hv6 hv7
          have HV6 : Hid (AcV w4 A6 n6 l3) := Lib.hid (hv6.below hb4)
          have HV7 : Hid (AcV w4 A7 n6 l3) := Lib.hid hv7
          have HN6 : Hid (n6 < 100000) := Lib.hid (by have := HPL.out; have := HL9.out; omega)
          have HPP : Hid (Calls Tryd.prog 15 #[.slice A6 n6 c6] w4 (GivesA 26 w4 l3)) := Lib.hid (plain27_any A6 n6 c6 l3 w4 HV6.out HN6.out (fun i => by have := HPB.out i; omega))
          clear ho4 hb4 hp4 hv6 hv7 HO3 HE0 HE1
          rw [hn6]
          have HN6E := Lib.hid hn6
          clear hn6
          go_wp2_with fail
          refine HPP.out.mono ?_
          rintro e w5 ⟨v5, rfl, ho5, hb5⟩
          obtain ⟨A8, c8, rfl, hv8, _, _, _⟩ := ho5.acV (Nat.le_refl _) hb5.size
          have HB5 : Hid (Below w.heap.size w w5) := Lib.hid (HB4.out.trans (hb5.mono HB4.out.size))
          have HK5 : Hid (Kn w5) := Lib.hid (HK4.out.below hb5)
          have HV8 : Hid (AcV w5 A8 n6 l3) := Lib.hid (by rw [← HN6E.out]; exact hv8)
          have HV9 : Hid (AcV w5 A7 n6 l3) := Lib.hid (HV7.out.below hb5)
          have e9 : allF false l3 l3 = true := (allF_iff l3 l3).2 rfl
          have HAL := Lib.hid (rall27_any A8 A7 n6 c8 n6 c7 l3 l3 false w5 HV8.out HV9.out HN6.out HN6.out)
          rw [e9] at HAL
          rw [HN6E.out]
          clear ho5 hb5 hv8 e9
          go_wp2_with fail
          refine HAL.out.mono ?_
          rintro e w6 ⟨rfl, hb6⟩
          have HB6 : Hid (Below w.heap.size w w6) := Lib.hid (HB5.out.trans (hb6.mono HB5.out.size))
          have HAW := Lib.hid (awake31_any w6 (HK5.out.below hb6))
          clear hb6
          go_wp2_with fail
          refine HAW.out.mono ?_
          rintro e w7 ⟨rfl, hb7⟩
          have HB7 : Hid (Below w.heap.size w w7) := Lib.hid (HB6.out.trans (hb7.mono HB6.out.size))
          clear hb7
          go_wp2
          go_ret
          exact ⟨rfl, HB7.out⟩
        · obtain ⟨rfl, rfl⟩ := HE1.out hk0
          have hkI : (0 : Int) < (k3 : Int) := by omega
          have HAW := Lib.hid (awake31_any w4 HK4.out)
          clear ho4 hb4 hp4 HO3 HE0 HE1
          go_wp2_with fail
          refine HAW.out.mono ?_
          rintro e w7 ⟨rfl, hb7⟩
          have HB7 : Hid (Below w.heap.size w w7) := Lib.hid (HB4.out.trans (hb7.mono HB4.out.size))
          clear hb7
          go_wp2
          go_ret
          exact ⟨rfl, HB7.out⟩
end Go.Proofs.YtcaogiaoabdkdaaDoor
