/-
  The document's cipher: mix, Encrypt.
-/
import Derived.Test.YtplapepgedagoaaRefS
import Derived.Test.YtplapepgedagoaaCls
import Derived.Test.YtplapepgedagoaaByt
import Derived.Laws.Tables
namespace Go.Proofs.Ytplapepgedagoaa
open Go.RowKit Go
set_option linter.unusedVariables false
set_option linter.unusedSimpArgs false
attribute [local irreducible] Gf.inv Gf.tm Gf.pw Gf.spread Gf.sub Gf.boxAt Gf.bk Gf.rm Gf.bit
/-- the square's cells: row i / 4, column i % 4 of a list that goes by columns -/
def sq (l : List Nat) (i : Nat) : Value := .int .u8 ((l.getD (4 * (i % 4) + i / 4) 0 : Nat) : Int)
theorem sq_at (l : List Nat) {r k : Nat} (hr : r < 4) (hk : k < 4) : sq l (r * 4 + k) = .int .u8 ((l.getD (4 * k + r) 0 : Nat) : Int) := by
  unfold sq; rw [show (r * 4 + k) % 4 = k by omega, show (r * 4 + k) / 4 = r by omega]
theorem mix_val {C : Nat → Nat} (hC : ∀ i, C i < 256) {r : Nat} (hr : r < 4) :
    mixC facM C r = (((Gf.rm 2 (C r) ^^^ Gf.rm 2 (C ((r + 1) % 4))) ^^^ C ((r + 1) % 4)) ^^^ C ((r + 2) % 4)) ^^^ C ((r + 3) % 4) := by
  have h2 : ∀ x, x < 256 → Gf.rm 2 x = Gf.xt x := fun x hx => by rw [← Gf.tm_rm (by omega) hx, Gf.tm_comm (by omega) hx, tm_two]
  show (((0 ^^^ Gf.tm (C ((r + 0) % 4)) 2) ^^^ Gf.tm (C ((r + 1) % 4)) 3) ^^^ Gf.tm (C ((r + 2) % 4)) 1) ^^^ Gf.tm (C ((r + 3) % 4)) 1 = _
  rw [Nat.zero_xor, Nat.add_zero, Nat.mod_eq_of_lt hr, tm_three, tm_two, Gf.tm_one (hC _), Gf.tm_one (hC _), h2 _ (hC _), h2 _ (hC _), Nat.xor_assoc (Gf.xt (C r)) (Gf.xt _) _]
/-- a cipher of the document's that stands -/
structure RefK (W : World) (g N : Nat) (ks : List Nat) (bw cap : Nat) : Prop where
  box : ∀ c, c < 256 → W.cell? ⟨g, c, none⟩ = some (.int .u8 ((Gf.sub c : Nat) : Int))
  twice : ∀ c, c < 256 → W.cell? ⟨g, 256 + c, none⟩ = some (.int .u8 ((Gf.rm 2 c : Nat) : Int))
  words : W.cell? ⟨g, 512, none⟩ = some (.slice (some ⟨bw, 0, none⟩) (4 * (N + 1)) cap)
  rounds : W.cell? ⟨g, 513, none⟩ = some (.int .i64 (N : Int))
  at_ : ∀ j, j < 4 * (4 * (N + 1)) → W.cell? ⟨bw, j, none⟩ = some (.int .u8 ((ks.getD j 0 : Nat) : Int))
  lt : g < W.heap.size
  lt2 : bw < W.heap.size
  cap : 4 * (N + 1) ≤ cap ∧ cap ≤ 9223372036854775807
theorem RefK.next {W W' : World} {g N : Nat} {ks : List Nat} {bw cap : Nat} (h : RefK W g N ks bw cap) (hb : Below W.heap.size W W') : RefK W' g N ks bw cap :=
  ⟨fun c hc => (hb.cell (p := ⟨g, c, none⟩) h.lt).trans (h.box c hc), fun c hc => (hb.cell (p := ⟨g, 256 + c, none⟩) h.lt).trans (h.twice c hc), (hb.cell (p := ⟨g, 512, none⟩) h.lt).trans h.words, (hb.cell (p := ⟨g, 513, none⟩) h.lt).trans h.rounds,
   fun j hj => (hb.cell (p := ⟨bw, j, none⟩) h.lt2).trans (h.at_ j hj), Nat.lt_of_lt_of_le h.lt hb.size, Nat.lt_of_lt_of_le h.lt2 hb.size, h.cap⟩
theorem RefS.refK {w : World} {g N : Nat} {v : Value} {ks : List Nat} {W : World} (h : RefS w g (twF 256) v (N : Int) (4 * (N + 1)) ks W) : ∃ bw cap, RefK W g N ks bw cap := by
  obtain ⟨bw, cap, rfl, h1, h2, h3, h4, h5⟩ := h.word (by omega)
  exact ⟨bw, cap, fun c hc => h.box hc, fun c hc => by rw [h.twice hc]; unfold twF; rw [if_pos hc], h.words, h.rounds, h5, h.cells.lt, h2, h3, h4⟩
theorem zero44 (w : World) : (zeroValue 101).run Try.prog w = .ok (.agg (rowV (sq []) 16)) w := by kernel_rfl
theorem info44 (f : Nat → Value) : (Try.prog.info? 101).map (·.size) = some (rowV f 16).size := by rw [rowV_size]; kernel_rfl
theorem one44 (l : List Nat) : (rowV (sq l) 16).all (·.oneCell') = true := by
  rw [Array.all_eq_true]
  intro i hi
  have h := rowV_at (sq l) (n := 16) (i := i) (by rw [rowV_size] at hi; exact hi)
  rw [Array.getElem?_eq_getElem hi] at h
  rw [Option.some.inj h]
  rfl
/-- mix: the columns ahead of c, and of column c the rows ahead of r, are in -/
def MixW (w : World) (l new : List Nat) (c r : Nat) (wr : World) : Prop :=
  Below w.heap.size w wr ∧ Row wr w.heap.size 101 (sq l) 16 ∧ Row wr (w.heap.size + 1) 101 (sq []) 16 ∧ Row wr (w.heap.size + 1 + 1) 101 (fun i => if i % 4 < c ∨ (i % 4 = c ∧ i / 4 < r) then sq new i else sq [] i) 16
theorem mixW_start (w : World) (l new : List Nat) : MixW w l new 0 0 (((w.alloc (.cells (rowV (sq l) 16) 101)).alloc (.cells (rowV (sq []) 16) 101)).alloc (.cells (rowV (sq []) 16) 101)) := by
  have e1 : ∀ o, (w.alloc o).heap.size = w.heap.size + 1 := fun o => by simp
  have e2 : ∀ o o', ((w.alloc o).alloc o').heap.size = w.heap.size + 1 + 1 := fun o o' => by simp
  refine ⟨(((Below.refl _ _).alloc (Nat.le_refl _) _).alloc (by rw [e1]; omega) _).alloc (by rw [e2]; omega) _, blk_alloc (blk_alloc (heap_alloc_new w _) _) _, ?_, ?_⟩
  · have h := heap_alloc_new (w.alloc (.cells (rowV (sq l) 16) 101)) (.cells (rowV (sq []) 16) 101)
    rw [e1] at h
    exact blk_alloc h _
  · have h := heap_alloc_new ((w.alloc (.cells (rowV (sq l) 16) 101)).alloc (.cells (rowV (sq []) 16) 101)) (.cells (rowV (sq []) 16) 101)
    rw [e2] at h
    exact Row.congr h fun i _ => by rw [if_neg (by omega)]
theorem mixW_step {w wr : World} {l new : List Nat} {c r : Nat} (hc : c < 4) (hr : r < 4) (h : MixW w l new c r wr) :
    MixW w l new c (r + 1) (wr.setCell ⟨w.heap.size + 1 + 1, r * 4 + c, none⟩ (.int .u8 ((new.getD (4 * c + r) 0 : Nat) : Int))) := by
  obtain ⟨h1, h2, h3, h4⟩ := h
  refine ⟨h1.setCell (p := ⟨w.heap.size + 1 + 1, r * 4 + c, none⟩) (by show w.heap.size ≤ w.heap.size + 1 + 1; omega) _, h2.far (by show w.heap.size ≠ w.heap.size + 1 + 1; omega) _, h3.far (by show w.heap.size + 1 ≠ w.heap.size + 1 + 1; omega) _, (h4.set_ (r * 4 + c) _).congr fun i hi => ?_⟩
  by_cases e : i = r * 4 + c
  · subst e
    rw [if_pos rfl, if_pos (by omega), sq_at new hr hc]
  · rw [if_neg e]
    by_cases q : i % 4 < c ∨ (i % 4 = c ∧ i / 4 < r)
    · rw [if_pos q, if_pos (by omega)]
    · rw [if_neg q, if_neg (by omega)]
theorem MixW.drew {w wr : World} {l new : List Nat} {c r : Nat} (h : MixW w l new c r wr) : MixW w l new c r wr.drew := ⟨h.1.drew, h.2.1, h.2.2.1, h.2.2.2⟩
theorem mixW_turn {w wr : World} {l new : List Nat} {c : Nat} (h : MixW w l new c 4 wr) : MixW w l new (c + 1) 0 wr := by
  obtain ⟨h1, h2, h3, h4⟩ := h
  refine ⟨h1, h2, h3, h4.congr fun i hi => ?_⟩
  by_cases q : i % 4 < c ∨ (i % 4 = c ∧ i / 4 < 4)
  · rw [if_pos q, if_pos (by omega)]
  · rw [if_neg q, if_neg (by omega)]
set_option maxHeartbeats 4000000 in
set_option maxRecDepth 100000 in
theorem refMix_any (g N bw cap : Nat) (ks l : List Nat) (w : World) (hK : RefK w g N ks bw cap) (hl : Aes.Ok l) :
    Calls Try.prog 49 #[.pointer (some ⟨g, 0, none⟩), .agg (rowV (sq l) 16)] w fun e w' => e = .returned (.agg (rowV (sq (Aes.mix facM l)) 16)) ∧ Below w.heap.size w w' := by
  have hz := zero44
  have H0 := Lib.hid (mixW_start w l (Aes.mix facM l))
  have HLB := Lib.hid hl.byte
  have hnew : ∀ c r, c < 4 → r < 4 → (Aes.mix facM l).getD (4 * c + r) 0 = mixC facM (fun q => l.getD (4 * c + q) 0) r := fun c r hc hr => by
    unfold Aes.mix
    rw [Aes.tab_at _ (by omega), show (4 * c + r) / 4 = c by omega, show (4 * c + r) % 4 = r by omega]
  have HNEW := Lib.hid hnew
  have HI := Lib.hid (info44 (sq (Aes.mix facM l)))
  have HON := Lib.hid (one44 (Aes.mix facM l))
  have HIZ := Lib.hid (info44 (sq []))
  have HTW := Lib.hid hK.twice
  have hgl := hK.lt
  obtain ⟨zz, hzz⟩ : ∃ z, z = rowV (sq []) 16 := ⟨_, rfl⟩
  obtain ⟨xx, hxx⟩ : ∃ z, z = rowV (sq l) 16 := ⟨_, rfl⟩
  have HZZ := Lib.hid hzz
  have HXX := Lib.hid hxx
  rw [← hzz] at hz
  rw [← hxx]
  rw [← hzz, ← hxx] at H0
  generalize Aes.mix facM l = new at *
  clear hzz hxx hl hK hnew
  go_enter Try.func49, Try.ntmps49
  go_wp2
  clear hz
  go_loopw [6] (fun k wr => ∃ c : Nat, k = .int .i64 (c : Int) ∧ c ≤ 4 ∧ MixW w l new c 0 wr) (fun k _ => (4 - intOf k).toNat)
  case atStart => exact ⟨0, rfl, by omega, H0.out⟩
  case round =>
    obtain ⟨c, rfl, hc, hM⟩ := hrel
    obtain ⟨wo, rfl⟩ : ∃ wo : World, wo = wr := ⟨_, rfl⟩
    have HMO := Lib.hid hM
    clear H0 hM
    by_cases hlt : c < 4
    · have lc0 : (c : Int) < 4 := by omega
      go_wp2
      go_loopw [7] (fun k wr => ∃ r : Nat, k = .int .i64 (r : Int) ∧ r ≤ 4 ∧ MixW w l new c r wr) (fun k _ => (4 - intOf k).toNat)
      case atStart => exact ⟨0, rfl, by omega, HMO.out⟩
      case round =>
        obtain ⟨r, rfl, hr, hM⟩ := hrel
        clear HMO
        by_cases hlr : r < 4
        · obtain ⟨q1, hq1⟩ : ∃ q, q = (r + 1) % 4 := ⟨_, rfl⟩
          have hq1l : q1 < 4 := by omega
          have e1w : IntKind.i64.wrap ((r : Int) + 1) = (r : Int) + 1 := IntWalk.i64_in _ (by omega)
          have e1m : ((r : Int) + 1).tmod 4 = (q1 : Int) := by rw [Int.tmod_eq_emod_of_nonneg (by omega)]; omega
          have e1t : ((q1 : Int)).toNat = q1 := Int.toNat_natCast _
          have e1l : (q1 : Int) < 4 := by omega
          have e1z : 0 ≤ (q1 : Int) := by omega
          obtain ⟨q2, hq2⟩ : ∃ q, q = (r + 2) % 4 := ⟨_, rfl⟩
          have hq2l : q2 < 4 := by omega
          have e2w : IntKind.i64.wrap ((r : Int) + 2) = (r : Int) + 2 := IntWalk.i64_in _ (by omega)
          have e2m : ((r : Int) + 2).tmod 4 = (q2 : Int) := by rw [Int.tmod_eq_emod_of_nonneg (by omega)]; omega
          have e2t : ((q2 : Int)).toNat = q2 := Int.toNat_natCast _
          have e2l : (q2 : Int) < 4 := by omega
          have e2z : 0 ≤ (q2 : Int) := by omega
          obtain ⟨q3, hq3⟩ : ∃ q, q = (r + 3) % 4 := ⟨_, rfl⟩
          have hq3l : q3 < 4 := by omega
          have e3w : IntKind.i64.wrap ((r : Int) + 3) = (r : Int) + 3 := IntWalk.i64_in _ (by omega)
          have e3m : ((r : Int) + 3).tmod 4 = (q3 : Int) := by rw [Int.tmod_eq_emod_of_nonneg (by omega)]; omega
          have e3t : ((q3 : Int)).toNat = q3 := Int.toNat_natCast _
          have e3l : (q3 : Int) < 4 := by omega
          have e3z : 0 ≤ (q3 : Int) := by omega
          obtain ⟨a, ha⟩ : ∃ a, a = l.getD (4 * c + r) 0 := ⟨_, rfl⟩
          obtain ⟨b, hb⟩ : ∃ a, a = l.getD (4 * c + q1) 0 := ⟨_, rfl⟩
          obtain ⟨d, hd⟩ : ∃ a, a = l.getD (4 * c + q2) 0 := ⟨_, rfl⟩
          obtain ⟨e, he⟩ : ∃ a, a = l.getD (4 * c + q3) 0 := ⟨_, rfl⟩
          obtain ⟨ta, hta⟩ : ∃ a', a' = Gf.rm 2 a := ⟨_, rfl⟩
          obtain ⟨tb, htb⟩ : ∃ a', a' = Gf.rm 2 b := ⟨_, rfl⟩
          have ba : a < 256 := by rw [ha]; exact HLB.out _
          have bb : b < 256 := by rw [hb]; exact HLB.out _
          have bd : d < 256 := by rw [hd]; exact HLB.out _
          have be : e < 256 := by rw [he]; exact HLB.out _
          have bta : ta < 256 := by rw [hta]; exact Gf.rm_lt _ _
          have btb : tb < 256 := by rw [htb]; exact Gf.rm_lt _ _
          obtain ⟨x1, hx1⟩ : ∃ x, x = ta ^^^ tb := ⟨_, rfl⟩
          obtain ⟨x2, hx2⟩ : ∃ x, x = x1 ^^^ b := ⟨_, rfl⟩
          obtain ⟨x3, hx3⟩ : ∃ x, x = x2 ^^^ d := ⟨_, rfl⟩
          obtain ⟨x4, hx4⟩ : ∃ x, x = x3 ^^^ e := ⟨_, rfl⟩
          have bx1 : x1 < 256 := by rw [hx1]; exact Gf.xor_lt bta btb
          have bx2 : x2 < 256 := by rw [hx2]; exact Gf.xor_lt bx1 bb
          have bx3 : x3 < 256 := by rw [hx3]; exact Gf.xor_lt bx2 bd
          have X1 : bits BinOp.xor IntKind.u8 (ta : Int) (tb : Int) = (x1 : Int) := by rw [hx1]; exact xor8 bta btb
          have X2 : bits BinOp.xor IntKind.u8 (x1 : Int) (b : Int) = (x2 : Int) := by rw [hx2]; exact xor8 bx1 bb
          have X3 : bits BinOp.xor IntKind.u8 (x2 : Int) (d : Int) = (x3 : Int) := by rw [hx3]; exact xor8 bx2 bd
          have X4 : bits BinOp.xor IntKind.u8 (x3 : Int) (e : Int) = (x4 : Int) := by rw [hx4]; exact xor8 bx3 be
          have hval : new.getD (4 * c + r) 0 = x4 := by
            rw [HNEW.out c r hlt hlr, mix_val (C := fun q => l.getD (4 * c + q) 0) (fun i => HLB.out _) hlr, hx4, hx3, hx2, hx1, hta, htb, ha, hb, hd, he, hq1, hq2, hq3]
          have hstep := (mixW_step hlt hlr hM).drew.drew
          rw [hval] at hstep
          have HST := Lib.hid hstep
          have k0 : wr.cell? ⟨w.heap.size, r * 4 + c, none⟩ = some (.int .u8 (a : Int)) := by rw [ha, ← sq_at l hlr hlt]; exact hM.2.1.cell (by omega)
          have k1 : wr.cell? ⟨w.heap.size, q1 * 4 + c, none⟩ = some (.int .u8 (b : Int)) := by rw [hb, ← sq_at l hq1l hlt]; exact hM.2.1.cell (by omega)
          have k2 : wr.cell? ⟨w.heap.size, q2 * 4 + c, none⟩ = some (.int .u8 (d : Int)) := by rw [hd, ← sq_at l hq2l hlt]; exact hM.2.1.cell (by omega)
          have k3 : wr.cell? ⟨w.heap.size, q3 * 4 + c, none⟩ = some (.int .u8 (e : Int)) := by rw [he, ← sq_at l hq3l hlt]; exact hM.2.1.cell (by omega)
          have k4 : wr.cell? ⟨g, 256 + a, none⟩ = some (.int .u8 (ta : Int)) := by rw [hta]; exact (hM.1.cell (p := ⟨g, 256 + a, none⟩) hgl).trans (HTW.out a ba)
          have k5 : wr.cell? ⟨g, 256 + b, none⟩ = some (.int .u8 (tb : Int)) := by rw [htb]; exact (hM.1.cell (p := ⟨g, 256 + b, none⟩) hgl).trans (HTW.out b bb)
          obtain ⟨old, hold⟩ : ∃ old, wr.cell? ⟨w.heap.size + 1 + 1, r * 4 + c, none⟩ = some old := ⟨_, hM.2.2.2.cell (by omega)⟩
          have hfr : wr.frozen? ⟨w.heap.size + 1 + 1, r * 4 + c, none⟩ = false := hM.2.2.2.free _
          have la : (a : Int) < 256 := by omega
          have lb : (b : Int) < 256 := by omega
          have za : 0 ≤ (a : Int) := by omega
          have zb : 0 ≤ (b : Int) := by omega
          have zc : 0 ≤ (c : Int) := by omega
          have lr : (r : Int) < 4 := by omega
          have zr : 0 ≤ (r : Int) := by omega
          have HKK := Lib.hid (And.intro k0 (And.intro k1 (And.intro k2 (And.intro k3 (And.intro k4 k5)))))
          clear k0 k1 k2 k3 k4 k5 hM hstep hval ha hb hd he hta htb hx1 hx2 hx3 hx4 hq1 hq2 hq3
          go_wp2_with fail
          refine wp_region_F (S := (fun W => W.cell? ⟨w.heap.size, r * 4 + c, none⟩ = some (.int .u8 (a : Int)) ∧ W.cell? ⟨w.heap.size, q1 * 4 + c, none⟩ = some (.int .u8 (b : Int)) ∧ W.cell? ⟨w.heap.size, q2 * 4 + c, none⟩ = some (.int .u8 (d : Int)) ∧ W.cell? ⟨w.heap.size, q3 * 4 + c, none⟩ = some (.int .u8 (e : Int)) ∧ W.cell? ⟨g, 256 + a, none⟩ = some (.int .u8 (ta : Int)) ∧ W.cell? ⟨g, 256 + b, none⟩ = some (.int .u8 (tb : Int)))) [] (by kernel_rfl) (HKK.out) (fun hHeld => ?_)
          refine wpAnyF_take (i := 0) (oi := _) (v := ?_) rfl (by kernel_rfl) (by kernel_rfl) (by kernel_rfl) (by kernel_rfl) (fun _ _ _ h => h) (Or.inl ⟨by rfl, ?_⟩) (by assumption) ?_
          rotate_left 1
          · intro w hSw
            (try dsimp only at hSw)
            (first | (go_simp; done) | (go_simp; with_reducible rfl))
          (try simp only [Act.put, List.getElem_toArray, List.getElem_cons_succ, List.getElem_cons_zero, List.setIfInBounds_toArray, List.set_cons_zero, List.set_cons_succ])
          refine wpAnyF_take (i := 1) (oi := _) (v := ?_) rfl (by kernel_rfl) (by kernel_rfl) (by kernel_rfl) (by kernel_rfl) (fun _ _ _ h => h) (Or.inl ⟨by rfl, ?_⟩) (by assumption) ?_
          rotate_left 1
          · intro w hSw
            (try dsimp only at hSw)
            (first | (go_simp; done) | (go_simp; with_reducible rfl))
          (try simp only [Act.put, List.getElem_toArray, List.getElem_cons_succ, List.getElem_cons_zero, List.setIfInBounds_toArray, List.set_cons_zero, List.set_cons_succ])
          refine wpAnyF_take (i := 2) (oi := _) (v := ?_) rfl (by kernel_rfl) (by kernel_rfl) (by kernel_rfl) (by kernel_rfl) (fun _ _ _ h => h) (Or.inl ⟨by rfl, ?_⟩) (by assumption) ?_
          rotate_left 1
          · intro w hSw
            (try dsimp only at hSw)
            (first | (go_simp; done) | (go_simp; with_reducible rfl))
          (try simp only [Act.put, List.getElem_toArray, List.getElem_cons_succ, List.getElem_cons_zero, List.setIfInBounds_toArray, List.set_cons_zero, List.set_cons_succ])
          refine wpAnyF_take (i := 3) (oi := _) (v := ?_) rfl (by kernel_rfl) (by kernel_rfl) (by kernel_rfl) (by kernel_rfl) (fun _ _ _ h => h) (Or.inl ⟨by rfl, ?_⟩) (by assumption) ?_
          rotate_left 1
          · intro w hSw
            (try dsimp only at hSw)
            (first | (go_simp; done) | (go_simp; with_reducible rfl))
          (try simp only [Act.put, List.getElem_toArray, List.getElem_cons_succ, List.getElem_cons_zero, List.setIfInBounds_toArray, List.set_cons_zero, List.set_cons_succ])
          refine wpAnyF_take (i := 4) (oi := _) (v := ?_) rfl (by kernel_rfl) (by kernel_rfl) (by kernel_rfl) (by kernel_rfl) (fun _ _ _ h => h) (Or.inl ⟨by rfl, ?_⟩) (by assumption) ?_
          rotate_left 1
          · intro w hSw
            (try dsimp only at hSw)
            (first | (go_simp; done) | (go_simp; with_reducible rfl))
          (try simp only [Act.put, List.getElem_toArray, List.getElem_cons_succ, List.getElem_cons_zero, List.setIfInBounds_toArray, List.set_cons_zero, List.set_cons_succ])
          refine wpAnyF_take (i := 5) (oi := _) (v := ?_) rfl (by kernel_rfl) (by kernel_rfl) (by kernel_rfl) (by kernel_rfl) (fun _ _ _ h => h) (Or.inl ⟨by rfl, ?_⟩) (by assumption) ?_
          rotate_left 1
          · intro w hSw
            (try dsimp only at hSw)
            (first | (go_simp; done) | (go_simp; with_reducible rfl))
          (try simp only [Act.put, List.getElem_toArray, List.getElem_cons_succ, List.getElem_cons_zero, List.setIfInBounds_toArray, List.set_cons_zero, List.set_cons_succ])
          refine wpAnyF_take (i := 6) (oi := _) (v := ?_) rfl (by kernel_rfl) (by kernel_rfl) (by kernel_rfl) (by kernel_rfl) (fun _ _ _ h => h) (Or.inl ⟨by rfl, ?_⟩) (by assumption) ?_
          rotate_left 1
          · intro w hSw
            (try dsimp only at hSw)
            (first | (go_simp; done) | (go_simp; with_reducible rfl))
          (try simp only [Act.put, List.getElem_toArray, List.getElem_cons_succ, List.getElem_cons_zero, List.setIfInBounds_toArray, List.set_cons_zero, List.set_cons_succ])
          refine wpAnyF_take (i := 7) (oi := _) (v := ?_) rfl (by kernel_rfl) (by kernel_rfl) (by kernel_rfl) (by kernel_rfl) (fun _ _ _ h => h) (Or.inl ⟨by rfl, ?_⟩) (by assumption) ?_
          rotate_left 1
          · intro w hSw
            (try dsimp only at hSw)
            (first | (go_simp; done) | (go_simp; with_reducible rfl))
          (try simp only [Act.put, List.getElem_toArray, List.getElem_cons_succ, List.getElem_cons_zero, List.setIfInBounds_toArray, List.set_cons_zero, List.set_cons_succ])
          refine wpAnyF_take (i := 8) (oi := _) (v := ?_) rfl (by kernel_rfl) (by kernel_rfl) (by kernel_rfl) (by kernel_rfl) (fun _ _ _ h => h) (Or.inl ⟨by rfl, ?_⟩) (by assumption) ?_
          rotate_left 1
          · intro w hSw
            (try dsimp only at hSw)
            (first | (go_simp; done) | (go_simp; with_reducible rfl))
          (try simp only [Act.put, List.getElem_toArray, List.getElem_cons_succ, List.getElem_cons_zero, List.setIfInBounds_toArray, List.set_cons_zero, List.set_cons_succ])
          refine wpAnyF_take (i := 9) (oi := _) (v := ?_) rfl (by kernel_rfl) (by kernel_rfl) (by kernel_rfl) (by kernel_rfl) (fun _ _ _ h => h) (Or.inl ⟨by rfl, ?_⟩) (by assumption) ?_
          rotate_left 1
          · intro w hSw
            (try dsimp only at hSw)
            (first | (go_simp; done) | (go_simp; with_reducible rfl))
          (try simp only [Act.put, List.getElem_toArray, List.getElem_cons_succ, List.getElem_cons_zero, List.setIfInBounds_toArray, List.set_cons_zero, List.set_cons_succ])
          refine wpAnyF_take (i := 10) (oi := _) (v := ?_) rfl (by kernel_rfl) (by kernel_rfl) (by kernel_rfl) (by kernel_rfl) (fun _ _ _ h => h) (Or.inl ⟨by rfl, ?_⟩) (by assumption) ?_
          rotate_left 1
          · intro w hSw
            (try dsimp only at hSw)
            (first | (go_simp; done) | (go_simp; with_reducible rfl))
          (try simp only [Act.put, List.getElem_toArray, List.getElem_cons_succ, List.getElem_cons_zero, List.setIfInBounds_toArray, List.set_cons_zero, List.set_cons_succ])
          refine wpAnyF_take (i := 11) (oi := _) (v := ?_) rfl (by kernel_rfl) (by kernel_rfl) (by kernel_rfl) (by kernel_rfl) (fun _ _ _ h => h) (Or.inl ⟨by rfl, ?_⟩) (by assumption) ?_
          rotate_left 1
          · intro w hSw
            (try dsimp only at hSw)
            (first | (go_simp; done) | (go_simp; with_reducible rfl))
          (try simp only [Act.put, List.getElem_toArray, List.getElem_cons_succ, List.getElem_cons_zero, List.setIfInBounds_toArray, List.set_cons_zero, List.set_cons_succ])
          refine wpAnyF_take (i := 12) (oi := _) (v := ?_) rfl (by kernel_rfl) (by kernel_rfl) (by kernel_rfl) (by kernel_rfl) (fun _ _ _ h => h) (Or.inl ⟨by rfl, ?_⟩) (by assumption) ?_
          rotate_left 1
          · intro w hSw
            (try dsimp only at hSw)
            (first | (go_simp; done) | (go_simp; with_reducible rfl))
          (try simp only [Act.put, List.getElem_toArray, List.getElem_cons_succ, List.getElem_cons_zero, List.setIfInBounds_toArray, List.set_cons_zero, List.set_cons_succ])
          refine wpAnyF_take (i := 13) (oi := _) (v := ?_) rfl (by kernel_rfl) (by kernel_rfl) (by kernel_rfl) (by kernel_rfl) (fun _ _ _ h => h) (Or.inl ⟨by rfl, ?_⟩) (by assumption) ?_
          rotate_left 1
          · intro w hSw
            (try dsimp only at hSw)
            (first | (go_simp; done) | (go_simp; with_reducible rfl))
          (try simp only [Act.put, List.getElem_toArray, List.getElem_cons_succ, List.getElem_cons_zero, List.setIfInBounds_toArray, List.set_cons_zero, List.set_cons_succ])
          refine wpAnyF_done (by kernel_rfl) ?_ _
          go_wp2_with fail
          refine wp_region_F (S := (fun W => W.cell? ⟨w.heap.size, r * 4 + c, none⟩ = some (.int .u8 (a : Int)) ∧ W.cell? ⟨w.heap.size, q1 * 4 + c, none⟩ = some (.int .u8 (b : Int)) ∧ W.cell? ⟨w.heap.size, q2 * 4 + c, none⟩ = some (.int .u8 (d : Int)) ∧ W.cell? ⟨w.heap.size, q3 * 4 + c, none⟩ = some (.int .u8 (e : Int)) ∧ W.cell? ⟨g, 256 + a, none⟩ = some (.int .u8 (ta : Int)) ∧ W.cell? ⟨g, 256 + b, none⟩ = some (.int .u8 (tb : Int)))) [35] (by kernel_rfl) (HKK.out) (fun hHeld => ?_)
          refine wpAnyF_take (i := 0) (oi := _) (v := ?_) rfl (by kernel_rfl) (by kernel_rfl) (by kernel_rfl) (by kernel_rfl) (fun _ _ _ h => h) (Or.inl ⟨by rfl, ?_⟩) (by assumption) ?_
          rotate_left 1
          · intro w hSw
            (try dsimp only at hSw)
            (first | (go_simp; done) | (go_simp; with_reducible rfl))
          (try simp only [Act.put, List.getElem_toArray, List.getElem_cons_succ, List.getElem_cons_zero, List.setIfInBounds_toArray, List.set_cons_zero, List.set_cons_succ])
          refine wpAnyF_take (i := 1) (oi := _) (v := ?_) rfl (by kernel_rfl) (by kernel_rfl) (by kernel_rfl) (by kernel_rfl) (fun _ _ _ h => h) (Or.inl ⟨by rfl, ?_⟩) (by assumption) ?_
          rotate_left 1
          · intro w hSw
            (try dsimp only at hSw)
            (first | (go_simp; done) | (go_simp; with_reducible rfl))
          (try simp only [Act.put, List.getElem_toArray, List.getElem_cons_succ, List.getElem_cons_zero, List.setIfInBounds_toArray, List.set_cons_zero, List.set_cons_succ])
          refine wpAnyF_take (i := 2) (oi := _) (v := ?_) rfl (by kernel_rfl) (by kernel_rfl) (by kernel_rfl) (by kernel_rfl) (fun _ _ _ h => h) (Or.inl ⟨by rfl, ?_⟩) (by assumption) ?_
          rotate_left 1
          · intro w hSw
            (try dsimp only at hSw)
            (first | (go_simp; done) | (go_simp; with_reducible rfl))
          (try simp only [Act.put, List.getElem_toArray, List.getElem_cons_succ, List.getElem_cons_zero, List.setIfInBounds_toArray, List.set_cons_zero, List.set_cons_succ])
          refine wpAnyF_take (i := 3) (oi := _) (v := ?_) rfl (by kernel_rfl) (by kernel_rfl) (by kernel_rfl) (by kernel_rfl) (fun _ _ _ h => h) (Or.inl ⟨by rfl, ?_⟩) (by assumption) ?_
          rotate_left 1
          · intro w hSw
            (try dsimp only at hSw)
            (first | (go_simp; done) | (go_simp; with_reducible rfl))
          (try simp only [Act.put, List.getElem_toArray, List.getElem_cons_succ, List.getElem_cons_zero, List.setIfInBounds_toArray, List.set_cons_zero, List.set_cons_succ])
          refine wpAnyF_take (i := 4) (oi := _) (v := ?_) rfl (by kernel_rfl) (by kernel_rfl) (by kernel_rfl) (by kernel_rfl) (fun _ _ _ h => h) (Or.inl ⟨by rfl, ?_⟩) (by assumption) ?_
          rotate_left 1
          · intro w hSw
            (try dsimp only at hSw)
            (first | (go_simp; done) | (go_simp; with_reducible rfl))
          (try simp only [Act.put, List.getElem_toArray, List.getElem_cons_succ, List.getElem_cons_zero, List.setIfInBounds_toArray, List.set_cons_zero, List.set_cons_succ])
          refine wpAnyF_take (i := 5) (oi := _) (v := ?_) rfl (by kernel_rfl) (by kernel_rfl) (by kernel_rfl) (by kernel_rfl) (fun _ _ _ h => h) (Or.inl ⟨by rfl, ?_⟩) (by assumption) ?_
          rotate_left 1
          · intro w hSw
            (try dsimp only at hSw)
            (first | (go_simp; done) | (go_simp; with_reducible rfl))
          (try simp only [Act.put, List.getElem_toArray, List.getElem_cons_succ, List.getElem_cons_zero, List.setIfInBounds_toArray, List.set_cons_zero, List.set_cons_succ])
          refine wpAnyF_take (i := 6) (oi := _) (v := ?_) rfl (by kernel_rfl) (by kernel_rfl) (by kernel_rfl) (by kernel_rfl) (fun _ _ _ h => h) (Or.inl ⟨by rfl, ?_⟩) (by assumption) ?_
          rotate_left 1
          · intro w hSw
            (try dsimp only at hSw)
            (first | (go_simp; done) | (go_simp; with_reducible rfl))
          (try simp only [Act.put, List.getElem_toArray, List.getElem_cons_succ, List.getElem_cons_zero, List.setIfInBounds_toArray, List.set_cons_zero, List.set_cons_succ])
          refine wpAnyF_take (i := 7) (oi := _) (v := ?_) rfl (by kernel_rfl) (by kernel_rfl) (by kernel_rfl) (by kernel_rfl) (fun _ _ _ h => h) (Or.inl ⟨by rfl, ?_⟩) (by assumption) ?_
          rotate_left 1
          · intro w hSw
            (try dsimp only at hSw)
            (first | (go_simp; done) | (go_simp; with_reducible rfl))
          (try simp only [Act.put, List.getElem_toArray, List.getElem_cons_succ, List.getElem_cons_zero, List.setIfInBounds_toArray, List.set_cons_zero, List.set_cons_succ])
          refine wpAnyF_take (i := 8) (oi := _) (v := ?_) rfl (by kernel_rfl) (by kernel_rfl) (by kernel_rfl) (by kernel_rfl) (fun _ _ _ h => h) (Or.inl ⟨by rfl, ?_⟩) (by assumption) ?_
          rotate_left 1
          · intro w hSw
            (try dsimp only at hSw)
            (first | (go_simp; done) | (go_simp; with_reducible rfl))
          (try simp only [Act.put, List.getElem_toArray, List.getElem_cons_succ, List.getElem_cons_zero, List.setIfInBounds_toArray, List.set_cons_zero, List.set_cons_succ])
          refine wpAnyF_take (i := 9) (oi := _) (v := ?_) rfl (by kernel_rfl) (by kernel_rfl) (by kernel_rfl) (by kernel_rfl) (fun _ _ _ h => h) (Or.inl ⟨by rfl, ?_⟩) (by assumption) ?_
          rotate_left 1
          · intro w hSw
            (try dsimp only at hSw)
            (first | (go_simp; done) | (go_simp; with_reducible rfl))
          (try simp only [Act.put, List.getElem_toArray, List.getElem_cons_succ, List.getElem_cons_zero, List.setIfInBounds_toArray, List.set_cons_zero, List.set_cons_succ])
          refine wpAnyF_take (i := 10) (oi := _) (v := ?_) rfl (by kernel_rfl) (by kernel_rfl) (by kernel_rfl) (by kernel_rfl) (fun _ _ _ h => h) (Or.inl ⟨by rfl, ?_⟩) (by assumption) ?_
          rotate_left 1
          · intro w hSw
            (try dsimp only at hSw)
            (first | (go_simp; done) | (go_simp; with_reducible rfl))
          (try simp only [Act.put, List.getElem_toArray, List.getElem_cons_succ, List.getElem_cons_zero, List.setIfInBounds_toArray, List.set_cons_zero, List.set_cons_succ])
          refine wpAnyF_take (i := 11) (oi := _) (v := ?_) rfl (by kernel_rfl) (by kernel_rfl) (by kernel_rfl) (by kernel_rfl) (fun _ _ _ h => h) (Or.inl ⟨by rfl, ?_⟩) (by assumption) ?_
          rotate_left 1
          · intro w hSw
            (try dsimp only at hSw)
            (first | (go_simp; done) | (go_simp; with_reducible rfl))
          (try simp only [Act.put, List.getElem_toArray, List.getElem_cons_succ, List.getElem_cons_zero, List.setIfInBounds_toArray, List.set_cons_zero, List.set_cons_succ])
          refine wpAnyF_take (i := 12) (oi := _) (v := ?_) rfl (by kernel_rfl) (by kernel_rfl) (by kernel_rfl) (by kernel_rfl) (fun _ _ _ h => h) (Or.inl ⟨by rfl, ?_⟩) (by assumption) ?_
          rotate_left 1
          · intro w hSw
            (try dsimp only at hSw)
            (first | (go_simp; done) | (go_simp; with_reducible rfl))
          (try simp only [Act.put, List.getElem_toArray, List.getElem_cons_succ, List.getElem_cons_zero, List.setIfInBounds_toArray, List.set_cons_zero, List.set_cons_succ])
          refine wpAnyF_take (i := 13) (oi := _) (v := ?_) rfl (by kernel_rfl) (by kernel_rfl) (by kernel_rfl) (by kernel_rfl) (fun _ _ _ h => h) (Or.inl ⟨by rfl, ?_⟩) (by assumption) ?_
          rotate_left 1
          · intro w hSw
            (try dsimp only at hSw)
            (first | (go_simp; done) | (go_simp; with_reducible rfl))
          (try simp only [Act.put, List.getElem_toArray, List.getElem_cons_succ, List.getElem_cons_zero, List.setIfInBounds_toArray, List.set_cons_zero, List.set_cons_succ])
          refine wpAnyF_take (i := 14) (oi := _) (v := ?_) rfl (by kernel_rfl) (by kernel_rfl) (by kernel_rfl) (by kernel_rfl) (fun _ _ _ h => h) (Or.inl ⟨by rfl, ?_⟩) (by assumption) ?_
          rotate_left 1
          · intro w hSw
            (try dsimp only at hSw)
            (first | (go_simp; done) | (go_simp; with_reducible rfl))
          (try simp only [Act.put, List.getElem_toArray, List.getElem_cons_succ, List.getElem_cons_zero, List.setIfInBounds_toArray, List.set_cons_zero, List.set_cons_succ])
          refine wpAnyF_take (i := 15) (oi := _) (v := ?_) rfl (by kernel_rfl) (by kernel_rfl) (by kernel_rfl) (by kernel_rfl) (fun _ _ _ h => h) (Or.inl ⟨by rfl, ?_⟩) (by assumption) ?_
          rotate_left 1
          · intro w hSw
            (try dsimp only at hSw)
            (first | (go_simp; done) | (go_simp; with_reducible rfl))
          (try simp only [Act.put, List.getElem_toArray, List.getElem_cons_succ, List.getElem_cons_zero, List.setIfInBounds_toArray, List.set_cons_zero, List.set_cons_succ])
          refine wpAnyF_take (i := 16) (oi := _) (v := ?_) rfl (by kernel_rfl) (by kernel_rfl) (by kernel_rfl) (by kernel_rfl) (fun _ _ _ h => h) (Or.inl ⟨by rfl, ?_⟩) (by assumption) ?_
          rotate_left 1
          · intro w hSw
            (try dsimp only at hSw)
            (first | (go_simp; done) | (go_simp; with_reducible rfl))
          (try simp only [Act.put, List.getElem_toArray, List.getElem_cons_succ, List.getElem_cons_zero, List.setIfInBounds_toArray, List.set_cons_zero, List.set_cons_succ])
          refine wpAnyF_take (i := 17) (oi := _) (v := ?_) rfl (by kernel_rfl) (by kernel_rfl) (by kernel_rfl) (by kernel_rfl) (fun _ _ _ h => h) (Or.inl ⟨by rfl, ?_⟩) (by assumption) ?_
          rotate_left 1
          · intro w hSw
            (try dsimp only at hSw)
            (first | (go_simp; done) | (go_simp; with_reducible rfl))
          (try simp only [Act.put, List.getElem_toArray, List.getElem_cons_succ, List.getElem_cons_zero, List.setIfInBounds_toArray, List.set_cons_zero, List.set_cons_succ])
          refine wpAnyF_take (i := 18) (oi := _) (v := ?_) rfl (by kernel_rfl) (by kernel_rfl) (by kernel_rfl) (by kernel_rfl) (fun _ _ _ h => h) (Or.inl ⟨by rfl, ?_⟩) (by assumption) ?_
          rotate_left 1
          · intro w hSw
            (try dsimp only at hSw)
            (first | (go_simp; done) | (go_simp; with_reducible rfl))
          (try simp only [Act.put, List.getElem_toArray, List.getElem_cons_succ, List.getElem_cons_zero, List.setIfInBounds_toArray, List.set_cons_zero, List.set_cons_succ])
          refine wpAnyF_take (i := 19) (oi := _) (v := ?_) rfl (by kernel_rfl) (by kernel_rfl) (by kernel_rfl) (by kernel_rfl) (fun _ _ _ h => h) (Or.inl ⟨by rfl, ?_⟩) (by assumption) ?_
          rotate_left 1
          · intro w hSw
            (try dsimp only at hSw)
            (first | (go_simp; done) | (go_simp; with_reducible rfl))
          (try simp only [Act.put, List.getElem_toArray, List.getElem_cons_succ, List.getElem_cons_zero, List.setIfInBounds_toArray, List.set_cons_zero, List.set_cons_succ])
          refine wpAnyF_take (i := 20) (oi := _) (v := ?_) rfl (by kernel_rfl) (by kernel_rfl) (by kernel_rfl) (by kernel_rfl) (fun _ _ _ h => h) (Or.inl ⟨by rfl, ?_⟩) (by assumption) ?_
          rotate_left 1
          · intro w hSw
            (try dsimp only at hSw)
            (first | (go_simp; done) | (go_simp; with_reducible rfl))
          (try simp only [Act.put, List.getElem_toArray, List.getElem_cons_succ, List.getElem_cons_zero, List.setIfInBounds_toArray, List.set_cons_zero, List.set_cons_succ])
          refine wpAnyF_take (i := 21) (oi := _) (v := ?_) rfl (by kernel_rfl) (by kernel_rfl) (by kernel_rfl) (by kernel_rfl) (fun _ _ _ h => h) (Or.inl ⟨by rfl, ?_⟩) (by assumption) ?_
          rotate_left 1
          · intro w hSw
            (try dsimp only at hSw)
            (first | (go_simp; done) | (go_simp; with_reducible rfl))
          (try simp only [Act.put, List.getElem_toArray, List.getElem_cons_succ, List.getElem_cons_zero, List.setIfInBounds_toArray, List.set_cons_zero, List.set_cons_succ])
          refine wpAnyF_take (i := 22) (oi := _) (v := ?_) rfl (by kernel_rfl) (by kernel_rfl) (by kernel_rfl) (by kernel_rfl) (fun _ _ _ h => h) (Or.inl ⟨by rfl, ?_⟩) (by assumption) ?_
          rotate_left 1
          · intro w hSw
            (try dsimp only at hSw)
            (first | (go_simp; done) | (go_simp; with_reducible rfl))
          (try simp only [Act.put, List.getElem_toArray, List.getElem_cons_succ, List.getElem_cons_zero, List.setIfInBounds_toArray, List.set_cons_zero, List.set_cons_succ])
          refine wpAnyF_take (i := 23) (oi := _) (v := ?_) rfl (by kernel_rfl) (by kernel_rfl) (by kernel_rfl) (by kernel_rfl) (fun _ _ _ h => h) (Or.inl ⟨by rfl, ?_⟩) (by assumption) ?_
          rotate_left 1
          · intro w hSw
            (try dsimp only at hSw)
            (first | (go_simp; done) | (go_simp; with_reducible rfl))
          (try simp only [Act.put, List.getElem_toArray, List.getElem_cons_succ, List.getElem_cons_zero, List.setIfInBounds_toArray, List.set_cons_zero, List.set_cons_succ])
          refine wpAnyF_take (i := 24) (oi := _) (v := ?_) rfl (by kernel_rfl) (by kernel_rfl) (by kernel_rfl) (by kernel_rfl) (fun _ _ _ h => h) (Or.inl ⟨by rfl, ?_⟩) (by assumption) ?_
          rotate_left 1
          · intro w hSw
            (try dsimp only at hSw)
            (first | (go_simp; done) | (go_simp; with_reducible rfl))
          (try simp only [Act.put, List.getElem_toArray, List.getElem_cons_succ, List.getElem_cons_zero, List.setIfInBounds_toArray, List.set_cons_zero, List.set_cons_succ])
          refine wpAnyF_take (i := 25) (oi := _) (v := ?_) rfl (by kernel_rfl) (by kernel_rfl) (by kernel_rfl) (by kernel_rfl) (fun _ _ _ h => h) (Or.inl ⟨by rfl, ?_⟩) (by assumption) ?_
          rotate_left 1
          · intro w hSw
            (try dsimp only at hSw)
            (first | (go_simp; done) | (go_simp; with_reducible rfl))
          (try simp only [Act.put, List.getElem_toArray, List.getElem_cons_succ, List.getElem_cons_zero, List.setIfInBounds_toArray, List.set_cons_zero, List.set_cons_succ])
          refine wpAnyF_take (i := 26) (oi := _) (v := ?_) rfl (by kernel_rfl) (by kernel_rfl) (by kernel_rfl) (by kernel_rfl) (fun _ _ _ h => h) (Or.inl ⟨by rfl, ?_⟩) (by assumption) ?_
          rotate_left 1
          · intro w hSw
            (try dsimp only at hSw)
            (first | (go_simp; done) | (go_simp; with_reducible rfl))
          (try simp only [Act.put, List.getElem_toArray, List.getElem_cons_succ, List.getElem_cons_zero, List.setIfInBounds_toArray, List.set_cons_zero, List.set_cons_succ])
          refine wpAnyF_take (i := 27) (oi := _) (v := ?_) rfl (by kernel_rfl) (by kernel_rfl) (by kernel_rfl) (by kernel_rfl) (fun _ _ _ h => h) (Or.inl ⟨by rfl, ?_⟩) (by assumption) ?_
          rotate_left 1
          · intro w hSw
            (try dsimp only at hSw)
            (first | (go_simp; done) | (go_simp; with_reducible rfl))
          (try simp only [Act.put, List.getElem_toArray, List.getElem_cons_succ, List.getElem_cons_zero, List.setIfInBounds_toArray, List.set_cons_zero, List.set_cons_succ])
          refine wpAnyF_take (i := 28) (oi := _) (v := ?_) rfl (by kernel_rfl) (by kernel_rfl) (by kernel_rfl) (by kernel_rfl) (fun _ _ _ h => h) (Or.inl ⟨by rfl, ?_⟩) (by assumption) ?_
          rotate_left 1
          · intro w hSw
            (try dsimp only at hSw)
            (first | (go_simp; done) | (go_simp; with_reducible rfl))
          (try simp only [Act.put, List.getElem_toArray, List.getElem_cons_succ, List.getElem_cons_zero, List.setIfInBounds_toArray, List.set_cons_zero, List.set_cons_succ])
          refine wpAnyF_take (i := 29) (oi := _) (v := ?_) rfl (by kernel_rfl) (by kernel_rfl) (by kernel_rfl) (by kernel_rfl) (fun _ _ _ h => h) (Or.inl ⟨by rfl, ?_⟩) (by assumption) ?_
          rotate_left 1
          · intro w hSw
            (try dsimp only at hSw)
            (first | (go_simp; done) | (go_simp; with_reducible rfl))
          (try simp only [Act.put, List.getElem_toArray, List.getElem_cons_succ, List.getElem_cons_zero, List.setIfInBounds_toArray, List.set_cons_zero, List.set_cons_succ])
          refine wpAnyF_take (i := 30) (oi := _) (v := ?_) rfl (by kernel_rfl) (by kernel_rfl) (by kernel_rfl) (by kernel_rfl) (fun _ _ _ h => h) (Or.inl ⟨by rfl, ?_⟩) (by assumption) ?_
          rotate_left 1
          · intro w hSw
            (try dsimp only at hSw)
            (first | (go_simp; done) | (go_simp; with_reducible rfl))
          (try simp only [Act.put, List.getElem_toArray, List.getElem_cons_succ, List.getElem_cons_zero, List.setIfInBounds_toArray, List.set_cons_zero, List.set_cons_succ])
          refine wpAnyF_take (i := 31) (oi := _) (v := ?_) rfl (by kernel_rfl) (by kernel_rfl) (by kernel_rfl) (by kernel_rfl) (fun _ _ _ h => h) (Or.inl ⟨by rfl, ?_⟩) (by assumption) ?_
          rotate_left 1
          · intro w hSw
            (try dsimp only at hSw)
            (first | (go_simp; done) | (go_simp; with_reducible rfl))
          (try simp only [Act.put, List.getElem_toArray, List.getElem_cons_succ, List.getElem_cons_zero, List.setIfInBounds_toArray, List.set_cons_zero, List.set_cons_succ])
          refine wpAnyF_take (i := 32) (oi := _) (v := ?_) rfl (by kernel_rfl) (by kernel_rfl) (by kernel_rfl) (by kernel_rfl) (fun _ _ _ h => h) (Or.inl ⟨by rfl, ?_⟩) (by assumption) ?_
          rotate_left 1
          · intro w hSw
            (try dsimp only at hSw)
            (first | (go_simp; done) | (go_simp; with_reducible rfl))
          (try simp only [Act.put, List.getElem_toArray, List.getElem_cons_succ, List.getElem_cons_zero, List.setIfInBounds_toArray, List.set_cons_zero, List.set_cons_succ])
          refine wpAnyF_ready (rs := [33]) (by kernel_rfl) (by simp) ?_
          refine AllReadyF.cons (o := _) rfl (fun K hK => ?_) AllReadyF.nil
          go_simp
          refine hK.out _ _ (HKK.out) (fun hHeld33 => ?_)
          clear hK K
          (try simp only [Act.put, List.getElem_toArray, List.getElem_cons_succ, List.getElem_cons_zero, List.setIfInBounds_toArray, List.set_cons_zero, List.set_cons_succ])
          refine wpAnyF_ready (rs := [34]) (by kernel_rfl) (by simp) ?_
          refine AllReadyF.cons (o := _) rfl (fun K hK => ?_) AllReadyF.nil
          go_simp
          refine hK.out _ _ (HKK.out) (fun hHeld34 => ?_)
          clear hK K
          (try simp only [Act.put, List.getElem_toArray, List.getElem_cons_succ, List.getElem_cons_zero, List.setIfInBounds_toArray, List.set_cons_zero, List.set_cons_succ])
          refine wpAnyF_ready (rs := [35]) (by kernel_rfl) (by simp) ?_
          refine AllReadyF.last (o := _) rfl (by rfl) (fun K hK => ?_) AllReadyF.nil
          go_simp
          refine hK.out _ _ ?_
          clear hK K
          (try simp only [Act.put, List.getElem_toArray, List.getElem_cons_succ, List.getElem_cons_zero, List.setIfInBounds_toArray, List.set_cons_zero, List.set_cons_succ])
          refine wpAnyF_done (by kernel_rfl) ?_ _
          go_wp2
          go_roundw
          case rel => exact ⟨r + 1, rfl, by omega, HST.out⟩
          case measure => simp [intOf]; omega

        · have HT : Hid (MixW w l new (c + 1) 0 wr) := Lib.hid (mixW_turn (by have e : r = 4 := by omega
                                                                              rw [e] at hM; exact hM))
          clear hM
          go_wp2
          go_roundw
          case rel => exact ⟨c + 1, rfl, by omega, HT.out⟩
          case measure => simp [intOf]; omega
    · have hM : MixW w l new 4 0 wo := by
        have e : c = 4 := by omega
        have := HMO.out
        rw [e] at this; exact this
      obtain ⟨h1, h2, h3, h4⟩ := hM
      have h4' : Row wo (w.heap.size + 1 + 1) 101 (sq new) 16 := h4.congr fun i hi => by rw [if_pos (by omega)]
      have H4 := Lib.hid h4'
      have h3' : wo.heap[w.heap.size + 1]? = some (.cells zz 101 (0, 0)) := by rw [HZZ.out]; exact h3
      have H3 := Lib.hid h3'
      have hold : zz.size = (rowV (sq new) 16).size := by rw [HZZ.out, rowV_size, rowV_size]
      have HX := Lib.hid (setRow_heap wo _ _ (rowV (sq new) 16) _ _ h3')
      have HB := Lib.hid (below_setRow (g := w.heap.size + 1) h1 (by omega) (rowV (sq new) 16))
      unfold Row at H4
      obtain ⟨yy, hyy⟩ : ∃ z, z = rowV (sq new) 16 := ⟨_, rfl⟩
      rw [← hyy] at H4 HI HON HX HB hold
      have HYY := Lib.hid hyy
      have HOLD := Lib.hid hold
      clear h1 h2 h3 h4 h4' h3' hyy hold HMO
      go_wp2_with (first
        | (with_reducible refine wpList_load_row rfl 101 (.tmp 5) rfl _ rfl 101 _ _ _ H4.out Try.underlying101 rfl HI.out ?_)
        | (with_reducible refine wpList_store_row rfl 101 (.tmp 4) (.tmp 65) rfl _ _ rfl rfl 101 _ H3.out HI.out HOLD.out HON.out ?_))
      exact bodyPost_ret (v := .agg yy) (results_cell_row rfl _ _ _ 101 _ (0, 0) _ rfl HX.out Try.underlying101 rfl HI.out) rfl ⟨by rw [HYY.out], HB.out⟩
end Go.Proofs.Ytplapepgedagoaa
