/-
  The document's chunk.
-/
import Derived.Test.YtoclelpmampikaaGreatShaG
import Derived.Test.YtoclelpmampikaaGreatQTail
import Derived.Laws.CopyOwn
import Derived.Laws.Tables
namespace Go.Proofs.YtoclelpmampikaaGreat
open Go.RowKit
set_option linter.unusedVariables false
set_option maxHeartbeats 400000 in
theorem turn_any (x k : Nat) (hx : x < 4294967296) (h1 : 1 ≤ k) (h2 : k ≤ 31) (w : World) :
    Calls Tryz.prog 96 #[.int .u32 (x : Int), .int .u64 (k : Int)] w fun e w' => e = .returned (.int .u32 ((Sha.rotr x k : Nat) : Int)) ∧ w = w' := by
  have H : Hid (bits .or .u32 ((x : Int) / 2 ^ k) ((x : Int) * 2 ^ (32 - k) % 4294967296) = ((Sha.rotr x k : Nat) : Int)) := by
    refine Lib.hid ?_
    have h := rot_eq (k := k) hx rfl rfl
    rw [Int.natCast_pow, Int.natCast_pow] at h
    exact h
  go_enter Tryz.func96, Tryz.ntmps96
  go_wp2
  go_ret
  exact ⟨ret_int H.out, rfl⟩
theorem turn_2 (x : Nat) (hx : x < 4294967296) (w : World) :
    Calls Tryz.prog 96 #[.int .u32 (x : Int), .int .u64 2] w fun e w' => e = .returned (.int .u32 ((Sha.rotr x 2 : Nat) : Int)) ∧ w = w' := turn_any x 2 hx (by omega) (by omega) w
theorem turn_6 (x : Nat) (hx : x < 4294967296) (w : World) :
    Calls Tryz.prog 96 #[.int .u32 (x : Int), .int .u64 6] w fun e w' => e = .returned (.int .u32 ((Sha.rotr x 6 : Nat) : Int)) ∧ w = w' := turn_any x 6 hx (by omega) (by omega) w
theorem turn_7 (x : Nat) (hx : x < 4294967296) (w : World) :
    Calls Tryz.prog 96 #[.int .u32 (x : Int), .int .u64 7] w fun e w' => e = .returned (.int .u32 ((Sha.rotr x 7 : Nat) : Int)) ∧ w = w' := turn_any x 7 hx (by omega) (by omega) w
theorem turn_11 (x : Nat) (hx : x < 4294967296) (w : World) :
    Calls Tryz.prog 96 #[.int .u32 (x : Int), .int .u64 11] w fun e w' => e = .returned (.int .u32 ((Sha.rotr x 11 : Nat) : Int)) ∧ w = w' := turn_any x 11 hx (by omega) (by omega) w
theorem turn_13 (x : Nat) (hx : x < 4294967296) (w : World) :
    Calls Tryz.prog 96 #[.int .u32 (x : Int), .int .u64 13] w fun e w' => e = .returned (.int .u32 ((Sha.rotr x 13 : Nat) : Int)) ∧ w = w' := turn_any x 13 hx (by omega) (by omega) w
theorem turn_17 (x : Nat) (hx : x < 4294967296) (w : World) :
    Calls Tryz.prog 96 #[.int .u32 (x : Int), .int .u64 17] w fun e w' => e = .returned (.int .u32 ((Sha.rotr x 17 : Nat) : Int)) ∧ w = w' := turn_any x 17 hx (by omega) (by omega) w
theorem turn_18 (x : Nat) (hx : x < 4294967296) (w : World) :
    Calls Tryz.prog 96 #[.int .u32 (x : Int), .int .u64 18] w fun e w' => e = .returned (.int .u32 ((Sha.rotr x 18 : Nat) : Int)) ∧ w = w' := turn_any x 18 hx (by omega) (by omega) w
theorem turn_19 (x : Nat) (hx : x < 4294967296) (w : World) :
    Calls Tryz.prog 96 #[.int .u32 (x : Int), .int .u64 19] w fun e w' => e = .returned (.int .u32 ((Sha.rotr x 19 : Nat) : Int)) ∧ w = w' := turn_any x 19 hx (by omega) (by omega) w
theorem turn_22 (x : Nat) (hx : x < 4294967296) (w : World) :
    Calls Tryz.prog 96 #[.int .u32 (x : Int), .int .u64 22] w fun e w' => e = .returned (.int .u32 ((Sha.rotr x 22 : Nat) : Int)) ∧ w = w' := turn_any x 22 hx (by omega) (by omega) w
theorem turn_25 (x : Nat) (hx : x < 4294967296) (w : World) :
    Calls Tryz.prog 96 #[.int .u32 (x : Int), .int .u64 25] w fun e w' => e = .returned (.int .u32 ((Sha.rotr x 25 : Nat) : Int)) ∧ w = w' := turn_any x 25 hx (by omega) (by omega) w
theorem turnq_6 (x : Nat) (hx : x < 4294967296) (w : World) (n : Nat) :
    Calls Tryz.prog 96 #[.int .u32 (x : Int), .int .u64 6] (w.drewN n) fun e w'' => e = .returned (.int .u32 ((Sha.rotr x 6 : Nat) : Int)) ∧ ∃ m, w'' = w.drewN m :=
  Calls.quiet_of_same ((turn_6 x hx _).mono fun _ _ h => ⟨h.1, h.2.symm⟩)
theorem turnq_11 (x : Nat) (hx : x < 4294967296) (w : World) (n : Nat) :
    Calls Tryz.prog 96 #[.int .u32 (x : Int), .int .u64 11] (w.drewN n) fun e w'' => e = .returned (.int .u32 ((Sha.rotr x 11 : Nat) : Int)) ∧ ∃ m, w'' = w.drewN m :=
  Calls.quiet_of_same ((turn_11 x hx _).mono fun _ _ h => ⟨h.1, h.2.symm⟩)
theorem turnq_25 (x : Nat) (hx : x < 4294967296) (w : World) (n : Nat) :
    Calls Tryz.prog 96 #[.int .u32 (x : Int), .int .u64 25] (w.drewN n) fun e w'' => e = .returned (.int .u32 ((Sha.rotr x 25 : Nat) : Int)) ∧ ∃ m, w'' = w.drewN m :=
  Calls.quiet_of_same ((turn_25 x hx _).mono fun _ _ h => ⟨h.1, h.2.symm⟩)
def kF (i : Nat) : Value := .int .u32 ((Sha.K.getD i 0 : Nat) : Int)
set_option maxHeartbeats 400000 in
set_option maxRecDepth 100000 in
theorem words_any (w : World) :
    Calls Tryz.prog 95 #[] w fun e w' => e = .returned (.slice (some ⟨w.heap.size, 0, none⟩) 64 64) ∧ Below w.heap.size w w' ∧ Row w' w.heap.size 78 kF 64 := by
  have HB := Lib.hid (fun o => (Below.refl w.heap.size w).alloc (Nat.le_refl _) o)
  have HR := Lib.hid (Row.new w 78 kF 64)
  go_enter Tryz.func95, Tryz.ntmps95
  go_wp2
  go_ret
  exact ⟨rfl, HB.out _, HR.out⟩
def z8 : Array Value := #[.int .u32 0, .int .u32 0, .int .u32 0, .int .u32 0, .int .u32 0, .int .u32 0, .int .u32 0, .int .u32 0]
theorem info_st (u : Sha.St) : (Tryz.prog.info? 149).map (·.size) = some (stA u).size := by kernel_rfl
theorem one_st (u : Sha.St) : (stA u).all (·.oneCell') = true := by simp [stA, Value.oneCell']
theorem first_is : stA Sha.first = #[.int .u32 1779033703, .int .u32 3144134277, .int .u32 1013904242, .int .u32 2773480762, .int .u32 1359893119, .int .u32 2600822924, .int .u32 528734635, .int .u32 1541459225] := by kernel_rfl
set_option maxHeartbeats 400000 in
theorem firsts_any (w : World) :
    Calls Tryz.prog 91 #[] w fun e w' => e = .returned (.agg (stA Sha.first)) ∧ Below w.heap.size w w' := by
  have hx := heap_alloc_new w (.cells (stA Sha.first) 149)
  have hb : Below w.heap.size w (w.alloc (.cells (stA Sha.first) 149)) := (Below.refl w.heap.size w).alloc (Nat.le_refl _) _
  have hi := info_st Sha.first
  have hf := first_is
  rw [hf] at hx hb hi
  have HX := Lib.hid hx
  have HB := Lib.hid hb
  have HI := Lib.hid hi
  have HF := Lib.hid hf
  clear hx hb hi hf
  go_enter Tryz.func91, Tryz.ntmps91
  go_wp2
  exact bodyPost_ret (v := .agg (stA Sha.first)) (by rw [HF.out]; exact results_cell_row rfl _ _ _ 149 _ (0, 0) _ rfl HX.out Tryz.underlying149 rfl HI.out) rfl ⟨rfl, HB.out⟩
/-! the chunk -/
theorem zero_ref (w : World) : (zeroValue 156).run Tryz.prog w = .ok (.agg (rowV (fun _ => u32 0) 64)) w := by kernel_rfl
/-- what lies in memory while the chunk l goes into s; j words are laid -/
structure BlRel (w : World) (s : Sha.St) (l : List Nat) (gw j : Nat) (W : World) : Prop where
  below : Below w.heap.size w W
  st : W.heap[w.heap.size]? = some (.cells (stA s) 149 (0, 0))
  out : W.heap[w.heap.size + 1]? = some (.cells z8 149 (0, 0))
  ks : Row W (w.heap.size + 1 + 1) 78 kF 64
  big : w.heap.size + 1 + 1 < gw
  ws : Row W gw 156 (spF l j) 64
attribute [local irreducible] rowV Sha.wl
section
variable {w W : World} {s : Sha.St} {l : List Nat} {gw j : Nat}
theorem BlRel.drewN (h : BlRel w s l gw j W) (q : Nat) : BlRel w s l gw j (W.drewN q) :=
  ⟨⟨h.below.os, h.below.tape, h.below.output, h.below.size, h.below.block⟩, h.st, h.out, h.ks, h.big, h.ws⟩
theorem BlRel.step (h : BlRel w s l gw j W) {x : Nat} (hx : x = (Sha.wl l 64).getD j 0) : BlRel w s l gw (j + 1) (W.setCell ⟨gw, j, none⟩ (.int .u32 (x : Int))) := by
  have hg := h.big
  refine ⟨h.below.setCell (by show w.heap.size ≤ gw; omega) _, blk_far (p := ⟨gw, j, none⟩) h.st (by show w.heap.size ≠ gw; omega) _, blk_far (p := ⟨gw, j, none⟩) h.out (by show w.heap.size + 1 ≠ gw; omega) _,
    Row.far (p := ⟨gw, j, none⟩) h.ks (by show w.heap.size + 1 + 1 ≠ gw; omega) _, hg, (h.ws.set_ j (.int .u32 (x : Int))).congr fun i hi => ?_⟩
  subst hx
  unfold spF
  by_cases e : i = j
  · subst e; rw [if_pos rfl, if_pos (by omega)]; rfl
  · rw [if_neg e]
    by_cases h7 : i < j
    · rw [if_pos h7, if_pos (by omega)]
    · rw [if_neg h7, if_neg (by omega)]
end
theorem bl_start {w W2 : World} (s : Sha.St) (l : List Nat) (hb : Below (w.heap.size + 1 + 1) ((w.alloc (.cells (stA s) 149)).alloc (.cells z8 149)) W2) (hk : Row W2 (w.heap.size + 1 + 1) 78 kF 64) :
    BlRel w s l W2.heap.size 0 (W2.alloc (.cells (rowV (fun _ => u32 0) 64) 156)) := by
  have b1 : (w.alloc (.cells (stA s) 149)).heap[w.heap.size]? = some (.cells (stA s) 149 (0, 0)) := heap_alloc_new w _
  have e1 : (w.alloc (.cells (stA s) 149)).heap.size = w.heap.size + 1 := by simp
  have b2 := heap_alloc_new (w.alloc (.cells (stA s) 149)) (.cells z8 149)
  rw [e1] at b2
  have b12 : Below w.heap.size w ((w.alloc (.cells (stA s) 149)).alloc (.cells z8 149)) := ((Below.refl _ _).alloc (Nat.le_refl _) _).alloc (by rw [e1]; omega) _
  have h2 := (hb.block w.heap.size (by omega)).trans (blk_alloc b1 _)
  have h3 := (hb.block (w.heap.size + 1) (by omega)).trans b2
  have hlt := hk.lt
  exact ⟨(b12.trans (hb.mono (by omega))).alloc (by omega) _, blk_alloc h2 _, blk_alloc h3 _, hk.alloc _, hlt, (Row.new W2 _ _ _).congr fun i _ => by unfold spF; rw [if_neg (by omega)]⟩
def BlA (w : World) (s : Sha.St) (l : List Nat) (gw : Nat) (v : Value) (wr : World) : Prop := ∃ j : Nat, v = .int .i64 (j : Int) ∧ j ≤ 64 ∧ BlRel w s l gw j wr
theorem sum_bytes {a b c d : Nat} : (a : Int) * 16777216 + (b : Int) * 65536 + (c : Int) * 256 + (d : Int) = ((a * 16777216 + b * 65536 + c * 256 + d : Nat) : Int) := by omega
theorem ref4 {a b c d : Nat} : ((d : Int) + (c : Int) + (b : Int) + (a : Int)) % 4294967296 = (((a + b + c + d) % 4294967296 : Nat) : Int) := by omega
theorem refCh_eq {x y z : Nat} (hx : x < 4294967296) (hy : y < 4294967296) (hz : z < 4294967296) : bits .xor .u32 z (bits .and .u32 x (bits .xor .u32 y z)) = ((Sha.ch x y z : Nat) : Int) := by
  rw [xor32 hy hz, and32 hx (Sha.xor_lt hy hz), xor32 hz (Sha.and_lt _ hx), Sha.ch_alt x y hz]
theorem refMaj_eq {x y z : Nat} (hx : x < 4294967296) (hy : y < 4294967296) (hz : z < 4294967296) : bits .or .u32 (bits .and .u32 x y) (bits .and .u32 z (bits .or .u32 x y)) = ((Sha.maj x y z : Nat) : Int) := by
  rw [or32 hx hy, and32 hx hy, and32 hz (Sha.or_lt hx hy), or32 (Sha.and_lt _ hx) (Sha.and_lt _ hz), Sha.maj_alt]
def BlB (w : World) (s : Sha.St) (l : List Nat) (gw : Nat) (va vb vc vd ve vf vg vh k : Value) (wr : World) : Prop :=
  ∃ (j : Nat) (t : Sha.St), k = .int .i64 (j : Int) ∧ j ≤ 64 ∧ BlRel w s l gw 64 wr ∧ t = Sha.rnds (Sha.wl l 64) s j ∧ va = .int .u32 (t.a : Int) ∧ vb = .int .u32 (t.b : Int) ∧ vc = .int .u32 (t.c : Int) ∧ vd = .int .u32 (t.d : Int) ∧
    ve = .int .u32 (t.e : Int) ∧ vf = .int .u32 (t.f : Int) ∧ vg = .int .u32 (t.g : Int) ∧ vh = .int .u32 (t.h : Int)
attribute [local irreducible] Sha.K
theorem blb_next {w W : World} {gw j : Nat} {s t : Sha.St} {l : List Nat} {kj wj u x y : Nat} (hj : j < 64) (h : BlRel w s l gw 64 W) (ht : t = Sha.rnds (Sha.wl l 64) s j) (hk : kj = Sha.K.getD j 0) (hw : wj = (Sha.wl l 64).getD j 0)
    (hu : u = (t.h + Sha.bS1 t.e + Sha.ch t.e t.f t.g + kj + wj) % 4294967296) (hx : x = (u + Sha.bS0 t.a + Sha.maj t.a t.b t.c) % 4294967296) (hy : y = (t.d + u) % 4294967296) :
    BlB w s l gw (.int .u32 (x : Int)) (.int .u32 (t.a : Int)) (.int .u32 (t.b : Int)) (.int .u32 (t.c : Int)) (.int .u32 (y : Int)) (.int .u32 (t.e : Int)) (.int .u32 (t.f : Int)) (.int .u32 (t.g : Int)) (.int .i64 ((j : Int) + 1)) W := by
  subst ht hk hw hu hx hy
  exact ⟨j + 1, Sha.rnd (Sha.rnds (Sha.wl l 64) s j) (Sha.K.getD j 0) ((Sha.wl l 64).getD j 0), rfl, by omega, h, by rw [Sha.rnds], rfl, rfl, rfl, rfl, rfl, rfl, rfl, rfl⟩
theorem stA_load {w W : World} {s : Sha.St} {l : List Nat} {gw j : Nat} (h : BlRel w s l gw j W) {i : Nat} (hi : i < 8) : W.cell? ⟨w.heap.size, i, none⟩ = some (.int .u32 ((s.at_ i : Nat) : Int)) := (blk_cell h.st i).trans (stA_at s hi)
theorem k_load {w W : World} {s : Sha.St} {l : List Nat} {gw j : Nat} (h : BlRel w s l gw j W) {i : Nat} (hi : i < 64) : W.cell? ⟨w.heap.size + 1 + 1, i, none⟩ = some (.int .u32 ((Sha.K.getD i 0 : Nat) : Int)) := h.ks.cell hi
attribute [local irreducible] spF Sha.s0 Sha.s1 Sha.rnds Sha.bS0 Sha.bS1 Sha.ch Sha.maj kF
set_option maxHeartbeats 4000000 in
set_option maxRecDepth 100000 in
theorem refBlock_any (s : Sha.St) (ok : s.Ok) (A : Option Addr) (c : Nat) (l : List Nat) (w : World) (hs : BS w w.heap.size A 64 c l) :
    Calls Tryz.prog 92 #[.agg (stA s), .slice A 64 c] w fun e w' => e = .returned (.agg (stA (Sha.block s l))) ∧ Below w.heap.size w w' := by
  have hz := zero_ref
  have HS := Lib.hid hs
  clear hs
  have hcap := HS.out.cap
  obtain ⟨b, o, rfl, hbB, hcell⟩ := HS.out.at_ (by omega)
  have HC := Lib.hid hcell
  clear hcell
  go_enter Tryz.func92, Tryz.ntmps92
  go_wp2_with fail
  refine (words_any _).mono ?_
  rintro e w2 ⟨rfl, hb2, hk2⟩
  have e2 : ∀ o o', ((w.alloc o).alloc o').heap.size = w.heap.size + 1 + 1 := fun o o' => by simp
  rw [e2] at hb2 hk2 ⊢
  have H0 := Lib.hid (bl_start s l hb2 hk2)
  have HG : Hid (w.heap.size + 1 + 1 < w2.heap.size) := Lib.hid hk2.lt
  clear e2 hb2 hk2
  go_wp2
  obtain ⟨gw, hgw⟩ : ∃ gw, gw = w2.heap.size := ⟨_, rfl⟩
  rw [← hgw] at H0 HG ⊢
  have H1 : Hid (BlA w s l gw (.int .i64 0) (w2.alloc (.cells (rowV (fun _ => u32 0) 64) 156))) := Lib.hid ⟨0, rfl, by omega, H0.out⟩
  clear hgw hz H0
  generalize w2.alloc (.cells (rowV (fun _ => u32 0) 64) 156) = w3 at *
  go_loopw [7] (fun k wr => BlA w s l gw k wr) (fun k _ => (64 - intOf k).toNat)
  case atStart => exact H1.out
  case round =>
    obtain ⟨j, rfl, hj, hr⟩ := hrel
    have HR := Lib.hid hr
    clear hr H1
    by_cases hlt : j < 64
    · obtain ⟨W2, hW2⟩ : ∃ W2 : World, W2 = wr.drew := ⟨_, rfl⟩
      have HR2 : BlRel w s l gw j W2 := by rw [hW2]; exact HR.out.drewN 1
      have HW2 := Lib.hid hW2
      clear hW2
      have HN : Hid (∀ x : Nat, x = (Sha.wl l 64).getD j 0 → BlA w s l gw (.int .i64 ((j : Int) + 1)) (W2.setCell ⟨gw, j, none⟩ (.int .u32 (x : Int)))) :=
        Lib.hid (fun x hx => ⟨j + 1, rfl, by omega, HR2.step hx⟩)
      have kc := HR2.ws.cell (i := j) (by omega)
      have kf := HR2.ws.free j
      generalize spF l j j = old at kc
      by_cases h16 : j < 16
      · have hcl : ∀ i, i < 64 → W2.cell? ⟨b, o + i, none⟩ = some (.int .u8 ((l.getD i 0 : Nat) : Int)) := fun i hi => (HR2.below.cell hbB).trans (HC.out i hi)
        have k0 := hcl (4 * j) (by omega)
        have k1 := hcl (4 * j + 1) (by omega)
        have k2 := hcl (4 * j + 2) (by omega)
        have k3 := hcl (4 * j + 3) (by omega)
        have y0 := HS.out.byte (4 * j)
        have y1 := HS.out.byte (4 * j + 1)
        have y2 := HS.out.byte (4 * j + 2)
        have y3 := HS.out.byte (4 * j + 3)
        rw [Sha.w_first l h16] at HN
        clear hcl HR HR2
        generalize l.getD (4 * j) 0 = x0 at *
        generalize l.getD (4 * j + 1) 0 = x1 at *
        generalize l.getD (4 * j + 2) 0 = x2 at *
        generalize l.getD (4 * j + 3) 0 = x3 at *
        have HV := Lib.hid (sum_bytes (a := x0) (b := x1) (c := x2) (d := x3))
        go_wp2
        refine wp_region_qtail 35 W2 HW2.out (by kernel_rfl) (by kernel_rfl) ?_
        simp only [List.take_succ_cons, List.take_zero, List.drop_succ_cons, List.drop_zero]
        clear HW2
        repeat (first
          | go_big_quiet_skip
          | (go_big_quiet_want; go_big_quiet_op; go_big_quiet_on))
        refine wpQuiet_nil ?_
        go_wp2
        go_roundw
        case rel => rw [HV.out]; exact HN.out _ rfl
        case measure => simp [intOf]; omega
      · have k2 := HR2.ws.cell (i := j - 2) (by omega)
        have k7 := HR2.ws.cell (i := j - 7) (by omega)
        have k15 := HR2.ws.cell (i := j - 15) (by omega)
        have k16 := HR2.ws.cell (i := j - 16) (by omega)
        rw [spF_at l (by omega)] at k2 k7 k15 k16
        have k2' := HR.out.ws.cell (i := j - 2) (by omega)
        have k15' := HR.out.ws.cell (i := j - 15) (by omega)
        rw [spF_at l (by omega)] at k2' k15'
        rw [Sha.w_later l (by omega) hlt] at HN
        have y2 := Sha.wl_lt HS.out.byte 64 (j - 2)
        have y7 := Sha.wl_lt HS.out.byte 64 (j - 7)
        have y15 := Sha.wl_lt HS.out.byte 64 (j - 15)
        have y16 := Sha.wl_lt HS.out.byte 64 (j - 16)
        clear HR HR2
        generalize (Sha.wl l 64).getD (j - 2) 0 = x2 at *
        generalize (Sha.wl l 64).getD (j - 7) 0 = x7 at *
        generalize (Sha.wl l 64).getD (j - 15) 0 = x15 at *
        generalize (Sha.wl l 64).getD (j - 16) 0 = x16 at *
        have HV0 := Lib.hid (s0_eq y15)
        have HV3 := Lib.hid (ref4 (a := Sha.s1 x2) (b := x7) (c := Sha.s0 x15) (d := x16))
        have HV1 := Lib.hid (s1_eq y2)
        go_wp2
        clear k2' k15'
        have n2 : ((j : Int) - 2).toNat = j - 2 := by omega
        have p2 : (0 : Int) ≤ (j : Int) - 2 := by omega
        have r2 : (2 : Int) ≤ (j : Int) := by omega
        have q2 : (j : Int) - 2 < 64 := by omega
        have b2 : j - 2 < 64 := by omega
        have n7 : ((j : Int) - 7).toNat = j - 7 := by omega
        have p7 : (0 : Int) ≤ (j : Int) - 7 := by omega
        have r7 : (7 : Int) ≤ (j : Int) := by omega
        have q7 : (j : Int) - 7 < 64 := by omega
        have b7 : j - 7 < 64 := by omega
        have n15 : ((j : Int) - 15).toNat = j - 15 := by omega
        have p15 : (0 : Int) ≤ (j : Int) - 15 := by omega
        have r15 : (15 : Int) ≤ (j : Int) := by omega
        have q15 : (j : Int) - 15 < 64 := by omega
        have b15 : j - 15 < 64 := by omega
        have n16 : ((j : Int) - 16).toNat = j - 16 := by omega
        have p16 : (0 : Int) ≤ (j : Int) - 16 := by omega
        have r16 : (16 : Int) ≤ (j : Int) := by omega
        have q16 : (j : Int) - 16 < 64 := by omega
        have b16 : j - 16 < 64 := by omega
        have w2 : IntKind.i64.wrap ((j : Int) - 2) = (j : Int) - 2 := IntWalk.i64_in _ (by omega)
        have w7 : IntKind.i64.wrap ((j : Int) - 7) = (j : Int) - 7 := IntWalk.i64_in _ (by omega)
        have w15 : IntKind.i64.wrap ((j : Int) - 15) = (j : Int) - 15 := IntWalk.i64_in _ (by omega)
        have w16 : IntKind.i64.wrap ((j : Int) - 16) = (j : Int) - 16 := IntWalk.i64_in _ (by omega)
        refine wp_region_qtail 29 W2 HW2.out (by kernel_rfl) (by kernel_rfl) ?_
        simp only [List.take_succ_cons, List.take_zero, List.drop_succ_cons, List.drop_zero]
        clear HW2
        repeat (first
          | go_big_quiet_skip
          | (go_big_quiet_want
             go_big_quiet_op
             first
               | go_big_quiet_on
               | (apply Exists.intro
                  refine ⟨?_, ?_⟩
                  · first
                      | ((with_reducible refine (turn_7 _ y15 _).mono ?_); exact fun _ _ h => ⟨h.1, h.2.symm⟩)
                      | ((with_reducible refine (turn_18 _ y15 _).mono ?_); exact fun _ _ h => ⟨h.1, h.2.symm⟩)
                      | ((with_reducible refine (turn_17 _ y2 _).mono ?_); exact fun _ _ h => ⟨h.1, h.2.symm⟩)
                      | ((with_reducible refine (turn_19 _ y2 _).mono ?_); exact fun _ _ h => ⟨h.1, h.2.symm⟩)
                  go_big_quiet_on)))
        refine wpQuiet_nil ?_
        rw [HV0.out, HV1.out]
        go_wp2
        go_roundw
        case rel => rw [HV3.out]; exact HN.out _ rfl
        case measure => simp [intOf]; omega
    · obtain rfl : j = 64 := by omega
      have k0 : wr.cell? ⟨w.heap.size, 0, none⟩ = some (.int .u32 ((s.a : Nat) : Int)) := stA_load HR.out (i := 0) (by omega)
      have k1 : wr.cell? ⟨w.heap.size, 1, none⟩ = some (.int .u32 ((s.b : Nat) : Int)) := stA_load HR.out (i := 1) (by omega)
      have k2 : wr.cell? ⟨w.heap.size, 2, none⟩ = some (.int .u32 ((s.c : Nat) : Int)) := stA_load HR.out (i := 2) (by omega)
      have k3 : wr.cell? ⟨w.heap.size, 3, none⟩ = some (.int .u32 ((s.d : Nat) : Int)) := stA_load HR.out (i := 3) (by omega)
      have k4 : wr.cell? ⟨w.heap.size, 4, none⟩ = some (.int .u32 ((s.e : Nat) : Int)) := stA_load HR.out (i := 4) (by omega)
      have k5 : wr.cell? ⟨w.heap.size, 5, none⟩ = some (.int .u32 ((s.f : Nat) : Int)) := stA_load HR.out (i := 5) (by omega)
      have k6 : wr.cell? ⟨w.heap.size, 6, none⟩ = some (.int .u32 ((s.g : Nat) : Int)) := stA_load HR.out (i := 6) (by omega)
      have k7 : wr.cell? ⟨w.heap.size, 7, none⟩ = some (.int .u32 ((s.h : Nat) : Int)) := stA_load HR.out (i := 7) (by omega)
      rw [show ((64 : Nat) : Int) = 64 from rfl]
      go_wp2
      go_quiet (fail)
      have H0 : Hid (BlB w s l gw (.int .u32 (s.a : Int)) (.int .u32 (s.b : Int)) (.int .u32 (s.c : Int)) (.int .u32 (s.d : Int)) (.int .u32 (s.e : Int)) (.int .u32 (s.f : Int)) (.int .u32 (s.g : Int)) (.int .u32 (s.h : Int)) (.int .i64 0) (wr.drewN nq)) :=
        Lib.hid ⟨0, s, rfl, by omega, HR.out.drewN nq, by unfold Sha.rnds; rfl, rfl, rfl, rfl, rfl, rfl, rfl, rfl, rfl⟩
      clear k0 k1 k2 k3 k4 k5 k6 k7 HR
      go_wp2
      generalize wr.drewN nq = w5 at *
      go_loopw [10, 11, 12, 13, 14, 15, 16, 17, 18] (fun va vb vc vd ve vf vg vh k wr => BlB w s l gw va vb vc vd ve vf vg vh k wr) (fun _ _ _ _ _ _ _ _ k _ => (64 - intOf k).toNat)
      case atStart => exact H0.out
      case round =>
        obtain ⟨j, t, rfl, hj, hr, het, rfl, rfl, rfl, rfl, rfl, rfl, rfl, rfl⟩ := hrel
        have HR := Lib.hid hr
        have hok : t.Ok := by rw [het]; exact Sha.rnds_ok ok _ _
        have HE := Lib.hid het
        clear hr H0 het
        by_cases hlt : j < 64
        · have kt := k_load HR.out hlt
          have kw := HR.out.ws.cell (i := j) (by omega)
          rw [spF_at l hlt] at kw
          have yt := Sha.K_lt j
          have yw := Sha.wl_lt HS.out.byte 64 j
          have HN := Lib.hid (fun q u x y => blb_next (kj := Sha.K.getD j 0) (wj := (Sha.wl l 64).getD j 0) (u := u) (x := x) (y := y) hlt (HR.out.drewN q) HE.out rfl rfl)
          clear HR HE
          generalize Sha.K.getD j 0 = kj at *
          generalize (Sha.wl l 64).getD j 0 = wj at *
          obtain ⟨ta, tb, tc, td, te, tf, tg, th⟩ := t
          obtain ⟨ya, yb, yc, yd, ye, yf, yg, yh⟩ := hok
          have HF := Lib.hid (far_eq ye)
          have HC2 := Lib.hid (refCh_eq ye yf yg)
          have HA := Lib.hid (near_eq ya)
          have HM := Lib.hid (refMaj_eq ya yb yc)
          go_wp2
          go_quiet (first
            | with_reducible exact turnq_6 _ ye _ _
            | with_reducible exact turnq_11 _ ye _ _
            | with_reducible exact turnq_25 _ ye _ _)
          rw [HF.out, HC2.out]
          have HU : Hid ((((th : Int) + (Sha.bS1 te : Nat) + (Sha.ch te tf tg : Nat) + (kj : Int)) % 4294967296 + (wj : Int)) % 4294967296 = (((th + Sha.bS1 te + Sha.ch te tf tg + kj + wj) % 4294967296 : Nat) : Int)) := Lib.hid (by omega)
          rw [HU.out]
          have HN2 := Lib.hid (fun x y => HN.out nq _ x y rfl)
          clear HU HN HF HC2
          have yu : (th + Sha.bS1 te + Sha.ch te tf tg + kj + wj) % 4294967296 < 4294967296 := Nat.mod_lt _ (by omega)
          generalize (th + Sha.bS1 te + Sha.ch te tf tg + kj + wj) % 4294967296 = u at *
          have HX : Hid (((u : Int) + ((Sha.bS0 ta : Nat) + (Sha.maj ta tb tc : Nat)) % 4294967296) % 4294967296 = (((u + Sha.bS0 ta + Sha.maj ta tb tc) % 4294967296 : Nat) : Int)) := Lib.hid (by omega)
          have HY : Hid (((td : Int) + (u : Int)) % 4294967296 = (((td + u) % 4294967296 : Nat) : Int)) := Lib.hid (by omega)
          generalize wr.drewN nq = w6 at *
          go_wp2_with (first
            | ((with_reducible refine (turn_2 _ ya _).mono ?_); rintro e w' ⟨rfl, rfl⟩)
            | ((with_reducible refine (turn_13 _ ya _).mono ?_); rintro e w' ⟨rfl, rfl⟩)
            | ((with_reducible refine (turn_22 _ ya _).mono ?_); rintro e w' ⟨rfl, rfl⟩))
          rw [HA.out, HM.out]
          go_roundw
          case rel => rw [HX.out, HY.out]; exact HN2.out _ _ rfl rfl
          case measure => simp [intOf]; omega
        · obtain rfl : j = 64 := by omega
          have HBK : Hid (Sha.block s l = Sha.plus s t) := Lib.hid (by rw [HE.out]; rfl)
          have k0 : wr.cell? ⟨w.heap.size, 0, none⟩ = some (.int .u32 ((s.a : Nat) : Int)) := stA_load HR.out (i := 0) (by omega)
          have k1 : wr.cell? ⟨w.heap.size, 1, none⟩ = some (.int .u32 ((s.b : Nat) : Int)) := stA_load HR.out (i := 1) (by omega)
          have k2 : wr.cell? ⟨w.heap.size, 2, none⟩ = some (.int .u32 ((s.c : Nat) : Int)) := stA_load HR.out (i := 2) (by omega)
          have k3 : wr.cell? ⟨w.heap.size, 3, none⟩ = some (.int .u32 ((s.d : Nat) : Int)) := stA_load HR.out (i := 3) (by omega)
          have k4 : wr.cell? ⟨w.heap.size, 4, none⟩ = some (.int .u32 ((s.e : Nat) : Int)) := stA_load HR.out (i := 4) (by omega)
          have k5 : wr.cell? ⟨w.heap.size, 5, none⟩ = some (.int .u32 ((s.f : Nat) : Int)) := stA_load HR.out (i := 5) (by omega)
          have k6 : wr.cell? ⟨w.heap.size, 6, none⟩ = some (.int .u32 ((s.g : Nat) : Int)) := stA_load HR.out (i := 6) (by omega)
          have k7 : wr.cell? ⟨w.heap.size, 7, none⟩ = some (.int .u32 ((s.h : Nat) : Int)) := stA_load HR.out (i := 7) (by omega)
          obtain ⟨ta, tb, tc, td, te, tf, tg, th⟩ := t
          obtain ⟨oa, ob, oc, od, oe, of_, og, oh⟩ := ok
          have HO := Lib.hid HR.out.out
          have hx := setRow_heap wr _ _ (stA (Sha.block s l)) _ _ HR.out.out
          have hb := below_setRow (g := w.heap.size + 1) HR.out.below (by omega) (stA (Sha.block s l))
          have HV : Hid (stA (Sha.block s l) = #[.int .u32 (((s.a : Int) + (ta : Int)) % 4294967296), .int .u32 (((s.b : Int) + (tb : Int)) % 4294967296), .int .u32 (((s.c : Int) + (tc : Int)) % 4294967296), .int .u32 (((s.d : Int) + (td : Int)) % 4294967296),
              .int .u32 (((s.e : Int) + (te : Int)) % 4294967296), .int .u32 (((s.f : Int) + (tf : Int)) % 4294967296), .int .u32 (((s.g : Int) + (tg : Int)) % 4294967296), .int .u32 (((s.h : Int) + (th : Int)) % 4294967296)]) := Lib.hid (by
            rw [HBK.out]; rfl)
          have hi := info_st (Sha.block s l)
          have hon := one_st (Sha.block s l)
          rw [HV.out] at hx hb hi hon
          have HX := Lib.hid hx
          have HB := Lib.hid hb
          have HI := Lib.hid hi
          have HON := Lib.hid hon
          clear hx hb HR HE HBK hi hon
          rw [show ((64 : Nat) : Int) = 64 from rfl]
          go_wp2_with (with_reducible refine wpList_store_row rfl 149 (.tmp 4) (.tmp 209) rfl _ _ rfl rfl 149 _ HO.out HI.out rfl HON.out ?_)
          exact bodyPost_ret (v := .agg (stA (Sha.block s l))) (by rw [HV.out]; exact results_cell_row rfl _ _ _ 149 _ (0, 0) _ rfl HX.out Tryz.underlying149 rfl HI.out) rfl ⟨rfl, HB.out⟩
end Go.Proofs.YtoclelpmampikaaGreat
