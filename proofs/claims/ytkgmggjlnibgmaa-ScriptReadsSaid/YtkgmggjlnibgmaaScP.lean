/-
  Package script: like; Same, Like.
-/
import Derived.Test.YtkgmggjlnibgmaaScN
namespace Go.Proofs.Ytkgmggjlnibgmaa
open Go.RowKit Go
set_option linter.unusedVariables false
set_option linter.unusedSimpArgs false
set_option maxRecDepth 100000
theorem psame_in (kd : Int) (y : Bool) (z1 z2 z3 z4 : Int) (A : Option Addr) (n c : Nat) (kd' : Int) (y' : Bool) (z1' z2' z3' z4' : Int) (A' : Option Addr) (n' c' : Nat) (b b' : List Nat) (w : World) (hs : BS w w.heap.size A n c b) (hs' : BS w w.heap.size A' n' c' b') :
    Calls Try.prog 21 #[.agg #[.int .i64 kd, .bool y, .int .i64 z1, .int .i64 z2, .int .i64 z3, .int .i64 z4, .slice A n c], .agg #[.int .i64 kd', .bool y', .int .i64 z1', .int .i64 z2', .int .i64 z3', .int .i64 z4', .slice A' n' c']] w (SameTo w (sameF false ⟨kd, y, z1, z2, z3, z4, b⟩ ⟨kd', y', z1', z2', z3', z4', b'⟩)) :=
  (same_in kd y z1 z2 z3 z4 A n c kd' y' z1' z2' z3' z4' A' n' c' b b' w hs hs').mono fun e w' h => ⟨by rw [h.1, ← sameH_F], h.2⟩
theorem like_far (kd : Int) (y : Bool) (z1 z2 z3 z4 : Int) (A : Option Addr) (n c : Nat) (kd' : Int) (y' : Bool) (z1' z2' z3' z4' : Int) (A' : Option Addr) (n' c' : Nat) (b b' : List Nat) (h : ¬ (kd = 9 ∧ b.length = b'.length)) : sameF true ⟨kd, y, z1, z2, z3, z4, b⟩ ⟨kd', y', z1', z2', z3', z4', b'⟩ = sameF false ⟨kd, y, z1, z2, z3, z4, b⟩ ⟨kd', y', z1', z2', z3', z4', b'⟩ := by
  unfold sameF
  dsimp only
  by_cases h9 : kd = 9
  · have hb : ¬ b.length = b'.length := fun e => h ⟨h9, e⟩
    have hbb : (b.length == b'.length) = false := by rw [beq_eq_false_iff_ne]; exact hb
    rw [hbb]; simp
  · have hq : (kd == 9) = false := by rw [beq_eq_false_iff_ne]; exact h9
    rw [hq]; simp
theorem like_near (kd : Int) (y : Bool) (z1 z2 z3 z4 : Int) (A : Option Addr) (n c : Nat) (kd' : Int) (y' : Bool) (z1' z2' z3' z4' : Int) (A' : Option Addr) (n' c' : Nat) (b b' : List Nat) (h9 : kd = 9) (hb : b.length = b'.length) : sameF true ⟨kd, y, z1, z2, z3, z4, b⟩ ⟨kd', y', z1', z2', z3', z4', b'⟩ = sameF false ⟨kd, y, z1, z2, z3, z4, b'⟩ ⟨kd', y', z1', z2', z3', z4', b'⟩ := by
  unfold sameF
  subst h9
  simp [hb]
set_option maxHeartbeats 8000000 in
theorem like_in (kd : Int) (y : Bool) (z1 z2 z3 z4 : Int) (A : Option Addr) (n c : Nat) (kd' : Int) (y' : Bool) (z1' z2' z3' z4' : Int) (A' : Option Addr) (n' c' : Nat) (b b' : List Nat) (w : World) (hs : BS w w.heap.size A n c b) (hs' : BS w w.heap.size A' n' c' b') :
    Calls Try.prog 33 #[.agg #[.int .i64 kd, .bool y, .int .i64 z1, .int .i64 z2, .int .i64 z3, .int .i64 z4, .slice A n c], .agg #[.int .i64 kd', .bool y', .int .i64 z1', .int .i64 z2', .int .i64 z3', .int .i64 z4', .slice A' n' c']] w (SameTo w (sameF true ⟨kd, y, z1, z2, z3, z4, b⟩ ⟨kd', y', z1', z2', z3', z4', b'⟩)) := by
  obtain ⟨W0, hW, hb0, hsz, hx, hx'⟩ := two_blk w (.cells #[.int .i64 kd, .bool y, .int .i64 z1, .int .i64 z2, .int .i64 z3, .int .i64 z4, .slice A n c] 28) (.cells #[.int .i64 kd', .bool y', .int .i64 z1', .int .i64 z2', .int .i64 z3', .int .i64 z4', .slice A' n' c'] 28)
  have HB0 := Lib.hid hb0
  have HS := Lib.hid hs
  have HS' := Lib.hid hs'
  have HL := Lib.hid hs.len
  have HL' := Lib.hid hs'.len
  have HW := Lib.hid hW.symm
  have HFAR := Lib.hid (like_far kd y z1 z2 z3 z4 A n c kd' y' z1' z2' z3' z4' A' n' c' b b')
  have HNEAR := Lib.hid (like_near kd y z1 z2 z3 z4 A n c kd' y' z1' z2' z3' z4' A' n' c' b b')
  have HSM : Hid (∀ V, Below w.heap.size w V → Calls Try.prog 21 #[.agg #[.int .i64 kd, .bool y, .int .i64 z1, .int .i64 z2, .int .i64 z3, .int .i64 z4, .slice A n c], .agg #[.int .i64 kd', .bool y', .int .i64 z1', .int .i64 z2', .int .i64 z3', .int .i64 z4', .slice A' n' c']] V (SameTo V (sameF false ⟨kd, y, z1, z2, z3, z4, b⟩ ⟨kd', y', z1', z2', z3', z4', b'⟩))) := Lib.hid (fun V hV => psame_in _ _ _ _ _ _ A n c _ _ _ _ _ _ A' n' c' b b' V ((hs.below hV).more hV.size) ((hs'.below hV).more hV.size))
  have HSM2 : Hid (∀ V, Below w.heap.size w V → Calls Try.prog 21 #[.agg #[.int .i64 kd, .bool y, .int .i64 z1, .int .i64 z2, .int .i64 z3, .int .i64 z4, .slice A' n' c'], .agg #[.int .i64 kd', .bool y', .int .i64 z1', .int .i64 z2', .int .i64 z3', .int .i64 z4', .slice A' n' c']] V (SameTo V (sameF false ⟨kd, y, z1, z2, z3, z4, b'⟩ ⟨kd', y', z1', z2', z3', z4', b'⟩))) := Lib.hid (fun V hV => psame_in _ _ _ _ _ _ A' n' c' _ _ _ _ _ _ A' n' c' b' b' V ((hs'.below hV).more hV.size) ((hs'.below hV).more hV.size))
  have f6 : W0.frozen? ⟨w.heap.size, 6, none⟩ = false := blk_free hx 6
  have HX := Lib.hid hx
  have p0 : W0.cell? ⟨w.heap.size, 0, none⟩ = some (.int .i64 kd) := blk_cell hx 0
  have p1 : W0.cell? ⟨w.heap.size, 1, none⟩ = some (.bool y) := blk_cell hx 1
  have p2 : W0.cell? ⟨w.heap.size, 2, none⟩ = some (.int .i64 z1) := blk_cell hx 2
  have p3 : W0.cell? ⟨w.heap.size, 3, none⟩ = some (.int .i64 z2) := blk_cell hx 3
  have p4 : W0.cell? ⟨w.heap.size, 4, none⟩ = some (.int .i64 z3) := blk_cell hx 4
  have p5 : W0.cell? ⟨w.heap.size, 5, none⟩ = some (.int .i64 z4) := blk_cell hx 5
  have p6 : W0.cell? ⟨w.heap.size, 6, none⟩ = some (.slice A n c) := blk_cell hx 6
  have q0 : W0.cell? ⟨w.heap.size + 1, 0, none⟩ = some (.int .i64 kd') := blk_cell hx' 0
  have q1 : W0.cell? ⟨w.heap.size + 1, 1, none⟩ = some (.bool y') := blk_cell hx' 1
  have q2 : W0.cell? ⟨w.heap.size + 1, 2, none⟩ = some (.int .i64 z1') := blk_cell hx' 2
  have q3 : W0.cell? ⟨w.heap.size + 1, 3, none⟩ = some (.int .i64 z2') := blk_cell hx' 3
  have q4 : W0.cell? ⟨w.heap.size + 1, 4, none⟩ = some (.int .i64 z3') := blk_cell hx' 4
  have q5 : W0.cell? ⟨w.heap.size + 1, 5, none⟩ = some (.int .i64 z4') := blk_cell hx' 5
  have q6 : W0.cell? ⟨w.heap.size + 1, 6, none⟩ = some (.slice A' n' c') := blk_cell hx' 6
  clear hW hx hx' hb0 hsz hs hs'
  by_cases h9 : kd = 9
  · by_cases hn : n = n'
    · subst hn
      have HR : Hid (sameF true ⟨kd, y, z1, z2, z3, z4, b⟩ ⟨kd', y', z1', z2', z3', z4', b'⟩ = sameF false ⟨kd, y, z1, z2, z3, z4, b'⟩ ⟨kd', y', z1', z2', z3', z4', b'⟩) := Lib.hid (HNEAR.out h9 (by rw [HL.out, HL'.out]))
      have HB2 : Hid (Below w.heap.size w (W0.setCell ⟨w.heap.size, 6, none⟩ (.slice A' n c'))) := Lib.hid (HB0.out.setCell (p := ⟨w.heap.size, 6, none⟩) (Nat.le_refl _) _)
      clear HNEAR HFAR
      have HC := Lib.hid (HSM2.out _ HB2.out)
      clear HSM HSM2
      rw [HR.out]
      generalize sameF false ⟨kd, y, z1, z2, z3, z4, b'⟩ ⟨kd', y', z1', z2', z3', z4', b'⟩ = R at *
      clear HR
      subst h9
      go_enter Try.func33, Try.ntmps33
      go_upto_region 1 with (fail)
      rw [HW.out]
      go_wp2_with fail
      refine HC.out.mono ?_
      rintro e w2 ⟨rfl, hb2⟩
      have HF : Hid (SameTo w R (.returned (.bool R)) w2) := Lib.hid ⟨rfl, HB2.out.trans (hb2.mono HB2.out.size)⟩
      clear hb2
      go_wp2
      go_ret
      exact HF.out
    · have hq : ((n : Int) == (n' : Int)) = false := by rw [beq_eq_false_iff_ne]; omega
      have HR : Hid (sameF true ⟨kd, y, z1, z2, z3, z4, b⟩ ⟨kd', y', z1', z2', z3', z4', b'⟩ = sameF false ⟨kd, y, z1, z2, z3, z4, b⟩ ⟨kd', y', z1', z2', z3', z4', b'⟩) := Lib.hid (HFAR.out (fun h => hn (by rw [← HL.out, ← HL'.out]; exact h.2)))
      clear HNEAR HFAR HSM2
      have HC := Lib.hid (HSM.out _ HB0.out)
      clear HSM
      rw [HR.out]
      generalize sameF false ⟨kd, y, z1, z2, z3, z4, b⟩ ⟨kd', y', z1', z2', z3', z4', b'⟩ = R at *
      clear HR
      clear hn
      subst h9
      go_enter Try.func33, Try.ntmps33
      go_upto_region 1 with (fail)
      rw [HW.out]
      go_wp2_with fail
      refine HC.out.mono ?_
      rintro e w2 ⟨rfl, hb2⟩
      have HF : Hid (SameTo w R (.returned (.bool R)) w2) := Lib.hid ⟨rfl, HB0.out.trans (hb2.mono HB0.out.size)⟩
      clear hb2
      go_wp2
      go_ret
      exact HF.out
  · have hq : (kd == 9) = false := by rw [beq_eq_false_iff_ne]; exact h9
    have HR : Hid (sameF true ⟨kd, y, z1, z2, z3, z4, b⟩ ⟨kd', y', z1', z2', z3', z4', b'⟩ = sameF false ⟨kd, y, z1, z2, z3, z4, b⟩ ⟨kd', y', z1', z2', z3', z4', b'⟩) := Lib.hid (HFAR.out (fun h => h9 h.1))
    clear HNEAR HFAR HSM2
    have HC := Lib.hid (HSM.out _ HB0.out)
    clear HSM
    rw [HR.out]
    generalize sameF false ⟨kd, y, z1, z2, z3, z4, b⟩ ⟨kd', y', z1', z2', z3', z4', b'⟩ = R at *
    clear HR
    clear h9
    go_enter Try.func33, Try.ntmps33
    go_upto_region 1 with (fail)
    rw [HW.out]
    go_wp2_with fail
    refine HC.out.mono ?_
    rintro e w2 ⟨rfl, hb2⟩
    have HF : Hid (SameTo w R (.returned (.bool R)) w2) := Lib.hid ⟨rfl, HB0.out.trans (hb2.mono HB0.out.size)⟩
    clear hb2
    go_wp2
    go_ret
    exact HF.out
set_option maxHeartbeats 8000000 in
theorem equalSame_any (A A' : Option Addr) (n c n' c' : Nat) (l m : List Ac) (w : World) (hv : AcV w A n l) (hv' : AcV w A' n' m) (hn9 : n < 100000) (hn9' : n' < 100000) :
    Calls Try.prog 32 #[.slice A n c, .slice A' n' c', .func (Fn.func 21) #[] #[]] w (SameTo w (allF false l m)) := by
  have HL := Lib.hid hv.1
  have HL' := Lib.hid hv'.1
  by_cases hne : n = n'
  · subst hne
    have HV := Lib.hid hv
    have HV' := Lib.hid hv'
    have HNO : Hid (∀ k, k < n → sameF false (aAt l k) (aAt m k) = false → allF false l m = false) := Lib.hid (fun k hk h => by
      unfold allF; rw [decide_eq_false_iff_not]; rintro ⟨_, h2⟩
      have := h2 k (by rw [HL.out]; exact hk)
      rw [h] at this; cases this)
    have HYES : Hid ((∀ i, i < n → sameF false (aAt l i) (aAt m i) = true) → allF false l m = true) := Lib.hid (fun h => by
      unfold allF; rw [decide_eq_true_eq]; exact ⟨by rw [HL.out, HL'.out], fun i hi => h i (by rw [HL.out] at hi; exact hi)⟩)
    have HR : Hid (AllR w false l m (.int .i64 0) w) := Lib.hid ⟨0, rfl, by omega, fun i hi => by omega, Below.refl _ _⟩
    clear hv hv'
    go_enter Try.func32, Try.ntmps32
    go_wp2_with fail
    go_loopw [17] (fun iv wr => AllR w false l m iv wr) (fun iv _ => (n - intOf iv).toNat)
    case atStart => exact HR.out
    case round =>
      clear HR
      obtain ⟨k, rfl, hk, hall, hb⟩ := hrel
      have HALL := Lib.hid hall
      have HB := Lib.hid hb
      clear hall hb
      rw [HL.out] at hk
      by_cases hlt : k < n
      · obtain ⟨b, o, A1, c1, rfl, hb0, q0, q1, q2, q3, q4, q5, q6, hs1, hz1⟩ := HV.out.at_ hlt
        obtain ⟨b', o', A1', c1', rfl, hb0', r0, r1, r2, r3, r4, r5, r6, hs1', hz1'⟩ := HV'.out.at_ hlt
        have p0 : wr.cell? ⟨b, o + k * 7, none⟩ = some (.int .i64 (aAt l k).kind) := (HB.out.cell (p := ⟨b, o + k * 7, none⟩) hb0).trans q0
        have p1 : wr.cell? ⟨b, o + k * 7 + 1, none⟩ = some (.bool (aAt l k).yes) := (HB.out.cell (p := ⟨b, o + k * 7 + 1, none⟩) hb0).trans q1
        have p2 : wr.cell? ⟨b, o + k * 7 + 2, none⟩ = some (.int .i64 (aAt l k).which) := (HB.out.cell (p := ⟨b, o + k * 7 + 2, none⟩) hb0).trans q2
        have p3 : wr.cell? ⟨b, o + k * 7 + 3, none⟩ = some (.int .i64 (aAt l k).k) := (HB.out.cell (p := ⟨b, o + k * 7 + 3, none⟩) hb0).trans q3
        have p4 : wr.cell? ⟨b, o + k * 7 + 4, none⟩ = some (.int .i64 (aAt l k).n) := (HB.out.cell (p := ⟨b, o + k * 7 + 4, none⟩) hb0).trans q4
        have p5 : wr.cell? ⟨b, o + k * 7 + 5, none⟩ = some (.int .i64 (aAt l k).pos) := (HB.out.cell (p := ⟨b, o + k * 7 + 5, none⟩) hb0).trans q5
        have p6 : wr.cell? ⟨b, o + k * 7 + 6, none⟩ = some (.slice A1 (aAt l k).b.length c1) := (HB.out.cell (p := ⟨b, o + k * 7 + 6, none⟩) hb0).trans q6
        have s0 : wr.cell? ⟨b', o' + k * 7, none⟩ = some (.int .i64 (aAt m k).kind) := (HB.out.cell (p := ⟨b', o' + k * 7, none⟩) hb0').trans r0
        have s1 : wr.cell? ⟨b', o' + k * 7 + 1, none⟩ = some (.bool (aAt m k).yes) := (HB.out.cell (p := ⟨b', o' + k * 7 + 1, none⟩) hb0').trans r1
        have s2 : wr.cell? ⟨b', o' + k * 7 + 2, none⟩ = some (.int .i64 (aAt m k).which) := (HB.out.cell (p := ⟨b', o' + k * 7 + 2, none⟩) hb0').trans r2
        have s3 : wr.cell? ⟨b', o' + k * 7 + 3, none⟩ = some (.int .i64 (aAt m k).k) := (HB.out.cell (p := ⟨b', o' + k * 7 + 3, none⟩) hb0').trans r3
        have s4 : wr.cell? ⟨b', o' + k * 7 + 4, none⟩ = some (.int .i64 (aAt m k).n) := (HB.out.cell (p := ⟨b', o' + k * 7 + 4, none⟩) hb0').trans r4
        have s5 : wr.cell? ⟨b', o' + k * 7 + 5, none⟩ = some (.int .i64 (aAt m k).pos) := (HB.out.cell (p := ⟨b', o' + k * 7 + 5, none⟩) hb0').trans r5
        have s6 : wr.cell? ⟨b', o' + k * 7 + 6, none⟩ = some (.slice A1' (aAt m k).b.length c1') := (HB.out.cell (p := ⟨b', o' + k * 7 + 6, none⟩) hb0').trans r6
        have hlt1 : b < wr.heap.size := Nat.lt_of_lt_of_le hb0 HB.out.size
        have hlt2 : b' < wr.heap.size := Nat.lt_of_lt_of_le hb0' HB.out.size
        have HSM : Hid (∀ V, After wr V → Calls Try.prog 21 #[.agg #[.int .i64 (aAt l k).kind, .bool (aAt l k).yes, .int .i64 (aAt l k).which, .int .i64 (aAt l k).k, .int .i64 (aAt l k).n, .int .i64 (aAt l k).pos, .slice A1 (aAt l k).b.length c1], .agg #[.int .i64 (aAt m k).kind, .bool (aAt m k).yes, .int .i64 (aAt m k).which, .int .i64 (aAt m k).k, .int .i64 (aAt m k).n, .int .i64 (aAt m k).pos, .slice A1' (aAt m k).b.length c1']] V (SameTo V (sameF false ⟨(aAt l k).kind, (aAt l k).yes, (aAt l k).which, (aAt l k).k, (aAt l k).n, (aAt l k).pos, (aAt l k).b⟩ ⟨(aAt m k).kind, (aAt m k).yes, (aAt m k).which, (aAt m k).k, (aAt m k).n, (aAt m k).pos, (aAt m k).b⟩))) := Lib.hid (fun V hV => by
          have hwV : Below w.heap.size w V := HB.out.trans (Below.mono hV HB.out.size)
          exact psame_in _ _ _ _ _ _ A1 _ c1 _ _ _ _ _ _ A1' _ c1' _ _ V ((hs1.below hwV).more hwV.size) ((hs1'.below hwV).more hwV.size))
        have HNOK := Lib.hid (HNO.out k hlt)
        have HST := Lib.hid (fun (h : sameF false (aAt l k) (aAt m k) = true) (i : Nat) (hi : i < k + 1) => (by
          by_cases e : i = k
          · rw [e]; exact h
          · exact HALL.out i (by omega) : sameF false (aAt l i) (aAt m i) = true))
        have HEQ : Hid (sameF false (aAt l k) (aAt m k) = sameF false ⟨(aAt l k).kind, (aAt l k).yes, (aAt l k).which, (aAt l k).k, (aAt l k).n, (aAt l k).pos, (aAt l k).b⟩ ⟨(aAt m k).kind, (aAt m k).yes, (aAt m k).which, (aAt m k).k, (aAt m k).n, (aAt m k).pos, (aAt m k).b⟩) := Lib.hid rfl
        rw [HEQ.out] at HNOK HST
        clear q0 q1 q2 q3 q4 q5 q6 r0 r1 r2 r3 r4 r5 r6 hs1 hs1' hz1 hz1' HEQ
        generalize (aAt l k).kind = kd at *
        generalize (aAt l k).yes = y at *
        generalize (aAt l k).which = z1 at *
        generalize (aAt l k).k = z2 at *
        generalize (aAt l k).n = z3 at *
        generalize (aAt l k).pos = z4 at *
        generalize (aAt m k).kind = kd' at *
        generalize (aAt m k).yes = y' at *
        generalize (aAt m k).which = z1' at *
        generalize (aAt m k).k = z2' at *
        generalize (aAt m k).n = z3' at *
        generalize (aAt m k).pos = z4' at *
        generalize (aAt l k).b = bb at *
        generalize (aAt m k).b = bb' at *
        generalize bb.length = nb at *
        generalize bb'.length = nb' at *
        have HA2 : Hid (After wr ((wr.alloc (.cells #[.int .i64 kd, .bool y, .int .i64 z1, .int .i64 z2, .int .i64 z3, .int .i64 z4, .slice A1 nb c1] 28)).alloc (.cells #[.int .i64 kd', .bool y', .int .i64 z1', .int .i64 z2', .int .i64 z3', .int .i64 z4', .slice A1' nb' c1'] 28))) := Lib.hid ((al1 _ _).alloc (by simp) _)
        have HC := Lib.hid (HSM.out _ HA2.out)
        generalize hr : sameF false ⟨kd, y, z1, z2, z3, z4, bb⟩ ⟨kd', y', z1', z2', z3', z4', bb'⟩ = r at *
        clear hr HSM
        go_wp2_with fail
        refine HC.out.mono ?_
        rintro e w2 ⟨rfl, hb2⟩
        have HBE : Hid (Below w.heap.size w w2) := Lib.hid (HB.out.trans (Below.mono (After.next HA2.out hb2) HB.out.size))
        clear hb2 p0 p1 p2 p3 p4 p5 p6 s0 s1 s2 s3 s4 s5 s6
        cases r
        · have HF : Hid (SameTo w (allF false l m) (.returned (.bool false)) w2) := Lib.hid ⟨by rw [HNOK.out rfl], HBE.out⟩
          go_wp2
          go_ret
          exact HF.out
        · have HF : Hid (AllR w false l m (.int .i64 ((k : Int) + 1)) w2) := Lib.hid ⟨k + 1, rfl, by rw [HL.out]; omega, HST.out rfl, HBE.out⟩
          go_wp2
          go_roundw
          case rel => exact HF.out
          case measure => simp [intOf]; omega
      · obtain rfl : k = n := by omega
        have HF : Hid (SameTo w (allF false l m) (.returned (.bool true)) wr) := Lib.hid ⟨by rw [HYES.out HALL.out], HB.out⟩
        go_wp2
        go_ret
        exact HF.out
  · have hq : ((n : Int) != (n' : Int)) = true := by rw [bne_iff_ne]; omega
    have HF : Hid (SameTo w (allF false l m) (.returned (.bool false)) w) := Lib.hid ⟨by
      have : allF false l m = false := by unfold allF; rw [decide_eq_false_iff_not]; rintro ⟨h, _⟩; rw [HL.out, HL'.out] at h; exact hne h
      rw [this], Below.refl _ _⟩
    clear hv hv' hne HL HL'
    go_enter Try.func32, Try.ntmps32
    go_wp2
    go_ret
    exact HF.out
theorem psameL_any (A A' : Option Addr) (n c n' c' : Nat) (l m : List Ac) (w : World) (hv : AcV w A n l) (hv' : AcV w A' n' m) (hn9 : n < 100000) (hn9' : n' < 100000) :
    Calls Try.prog 18 #[.slice A n c, .slice A' n' c'] w (SameTo w (allF false l m)) := by
  have H := Lib.hid (equalSame_any A A' n c n' c' l m w hv hv' hn9 hn9')
  clear hv hv'
  generalize allF false l m = R at *
  go_enter Try.func18, Try.ntmps18
  go_wp2_with fail
  refine H.out.mono ?_
  rintro e w1 ⟨rfl, hb⟩
  have HB := Lib.hid hb
  clear hb
  go_wp2
  go_ret
  exact ⟨rfl, HB.out⟩
set_option maxHeartbeats 8000000 in
theorem equalLike_any (A A' : Option Addr) (n c n' c' : Nat) (l m : List Ac) (w : World) (hv : AcV w A n l) (hv' : AcV w A' n' m) (hn9 : n < 100000) (hn9' : n' < 100000) :
    Calls Try.prog 32 #[.slice A n c, .slice A' n' c', .func (Fn.func 33) #[] #[]] w (SameTo w (allF true l m)) := by
  have HL := Lib.hid hv.1
  have HL' := Lib.hid hv'.1
  by_cases hne : n = n'
  · subst hne
    have HV := Lib.hid hv
    have HV' := Lib.hid hv'
    have HNO : Hid (∀ k, k < n → sameF true (aAt l k) (aAt m k) = false → allF true l m = false) := Lib.hid (fun k hk h => by
      unfold allF; rw [decide_eq_false_iff_not]; rintro ⟨_, h2⟩
      have := h2 k (by rw [HL.out]; exact hk)
      rw [h] at this; cases this)
    have HYES : Hid ((∀ i, i < n → sameF true (aAt l i) (aAt m i) = true) → allF true l m = true) := Lib.hid (fun h => by
      unfold allF; rw [decide_eq_true_eq]; exact ⟨by rw [HL.out, HL'.out], fun i hi => h i (by rw [HL.out] at hi; exact hi)⟩)
    have HR : Hid (AllR w true l m (.int .i64 0) w) := Lib.hid ⟨0, rfl, by omega, fun i hi => by omega, Below.refl _ _⟩
    clear hv hv'
    go_enter Try.func32, Try.ntmps32
    go_wp2_with fail
    go_loopw [17] (fun iv wr => AllR w true l m iv wr) (fun iv _ => (n - intOf iv).toNat)
    case atStart => exact HR.out
    case round =>
      clear HR
      obtain ⟨k, rfl, hk, hall, hb⟩ := hrel
      have HALL := Lib.hid hall
      have HB := Lib.hid hb
      clear hall hb
      rw [HL.out] at hk
      by_cases hlt : k < n
      · obtain ⟨b, o, A1, c1, rfl, hb0, q0, q1, q2, q3, q4, q5, q6, hs1, hz1⟩ := HV.out.at_ hlt
        obtain ⟨b', o', A1', c1', rfl, hb0', r0, r1, r2, r3, r4, r5, r6, hs1', hz1'⟩ := HV'.out.at_ hlt
        have p0 : wr.cell? ⟨b, o + k * 7, none⟩ = some (.int .i64 (aAt l k).kind) := (HB.out.cell (p := ⟨b, o + k * 7, none⟩) hb0).trans q0
        have p1 : wr.cell? ⟨b, o + k * 7 + 1, none⟩ = some (.bool (aAt l k).yes) := (HB.out.cell (p := ⟨b, o + k * 7 + 1, none⟩) hb0).trans q1
        have p2 : wr.cell? ⟨b, o + k * 7 + 2, none⟩ = some (.int .i64 (aAt l k).which) := (HB.out.cell (p := ⟨b, o + k * 7 + 2, none⟩) hb0).trans q2
        have p3 : wr.cell? ⟨b, o + k * 7 + 3, none⟩ = some (.int .i64 (aAt l k).k) := (HB.out.cell (p := ⟨b, o + k * 7 + 3, none⟩) hb0).trans q3
        have p4 : wr.cell? ⟨b, o + k * 7 + 4, none⟩ = some (.int .i64 (aAt l k).n) := (HB.out.cell (p := ⟨b, o + k * 7 + 4, none⟩) hb0).trans q4
        have p5 : wr.cell? ⟨b, o + k * 7 + 5, none⟩ = some (.int .i64 (aAt l k).pos) := (HB.out.cell (p := ⟨b, o + k * 7 + 5, none⟩) hb0).trans q5
        have p6 : wr.cell? ⟨b, o + k * 7 + 6, none⟩ = some (.slice A1 (aAt l k).b.length c1) := (HB.out.cell (p := ⟨b, o + k * 7 + 6, none⟩) hb0).trans q6
        have s0 : wr.cell? ⟨b', o' + k * 7, none⟩ = some (.int .i64 (aAt m k).kind) := (HB.out.cell (p := ⟨b', o' + k * 7, none⟩) hb0').trans r0
        have s1 : wr.cell? ⟨b', o' + k * 7 + 1, none⟩ = some (.bool (aAt m k).yes) := (HB.out.cell (p := ⟨b', o' + k * 7 + 1, none⟩) hb0').trans r1
        have s2 : wr.cell? ⟨b', o' + k * 7 + 2, none⟩ = some (.int .i64 (aAt m k).which) := (HB.out.cell (p := ⟨b', o' + k * 7 + 2, none⟩) hb0').trans r2
        have s3 : wr.cell? ⟨b', o' + k * 7 + 3, none⟩ = some (.int .i64 (aAt m k).k) := (HB.out.cell (p := ⟨b', o' + k * 7 + 3, none⟩) hb0').trans r3
        have s4 : wr.cell? ⟨b', o' + k * 7 + 4, none⟩ = some (.int .i64 (aAt m k).n) := (HB.out.cell (p := ⟨b', o' + k * 7 + 4, none⟩) hb0').trans r4
        have s5 : wr.cell? ⟨b', o' + k * 7 + 5, none⟩ = some (.int .i64 (aAt m k).pos) := (HB.out.cell (p := ⟨b', o' + k * 7 + 5, none⟩) hb0').trans r5
        have s6 : wr.cell? ⟨b', o' + k * 7 + 6, none⟩ = some (.slice A1' (aAt m k).b.length c1') := (HB.out.cell (p := ⟨b', o' + k * 7 + 6, none⟩) hb0').trans r6
        have hlt1 : b < wr.heap.size := Nat.lt_of_lt_of_le hb0 HB.out.size
        have hlt2 : b' < wr.heap.size := Nat.lt_of_lt_of_le hb0' HB.out.size
        have HSM : Hid (∀ V, After wr V → Calls Try.prog 33 #[.agg #[.int .i64 (aAt l k).kind, .bool (aAt l k).yes, .int .i64 (aAt l k).which, .int .i64 (aAt l k).k, .int .i64 (aAt l k).n, .int .i64 (aAt l k).pos, .slice A1 (aAt l k).b.length c1], .agg #[.int .i64 (aAt m k).kind, .bool (aAt m k).yes, .int .i64 (aAt m k).which, .int .i64 (aAt m k).k, .int .i64 (aAt m k).n, .int .i64 (aAt m k).pos, .slice A1' (aAt m k).b.length c1']] V (SameTo V (sameF true ⟨(aAt l k).kind, (aAt l k).yes, (aAt l k).which, (aAt l k).k, (aAt l k).n, (aAt l k).pos, (aAt l k).b⟩ ⟨(aAt m k).kind, (aAt m k).yes, (aAt m k).which, (aAt m k).k, (aAt m k).n, (aAt m k).pos, (aAt m k).b⟩))) := Lib.hid (fun V hV => by
          have hwV : Below w.heap.size w V := HB.out.trans (Below.mono hV HB.out.size)
          exact like_in _ _ _ _ _ _ A1 _ c1 _ _ _ _ _ _ A1' _ c1' _ _ V ((hs1.below hwV).more hwV.size) ((hs1'.below hwV).more hwV.size))
        have HNOK := Lib.hid (HNO.out k hlt)
        have HST := Lib.hid (fun (h : sameF true (aAt l k) (aAt m k) = true) (i : Nat) (hi : i < k + 1) => (by
          by_cases e : i = k
          · rw [e]; exact h
          · exact HALL.out i (by omega) : sameF true (aAt l i) (aAt m i) = true))
        have HEQ : Hid (sameF true (aAt l k) (aAt m k) = sameF true ⟨(aAt l k).kind, (aAt l k).yes, (aAt l k).which, (aAt l k).k, (aAt l k).n, (aAt l k).pos, (aAt l k).b⟩ ⟨(aAt m k).kind, (aAt m k).yes, (aAt m k).which, (aAt m k).k, (aAt m k).n, (aAt m k).pos, (aAt m k).b⟩) := Lib.hid rfl
        rw [HEQ.out] at HNOK HST
        clear q0 q1 q2 q3 q4 q5 q6 r0 r1 r2 r3 r4 r5 r6 hs1 hs1' hz1 hz1' HEQ
        generalize (aAt l k).kind = kd at *
        generalize (aAt l k).yes = y at *
        generalize (aAt l k).which = z1 at *
        generalize (aAt l k).k = z2 at *
        generalize (aAt l k).n = z3 at *
        generalize (aAt l k).pos = z4 at *
        generalize (aAt m k).kind = kd' at *
        generalize (aAt m k).yes = y' at *
        generalize (aAt m k).which = z1' at *
        generalize (aAt m k).k = z2' at *
        generalize (aAt m k).n = z3' at *
        generalize (aAt m k).pos = z4' at *
        generalize (aAt l k).b = bb at *
        generalize (aAt m k).b = bb' at *
        generalize bb.length = nb at *
        generalize bb'.length = nb' at *
        have HA2 : Hid (After wr ((wr.alloc (.cells #[.int .i64 kd, .bool y, .int .i64 z1, .int .i64 z2, .int .i64 z3, .int .i64 z4, .slice A1 nb c1] 28)).alloc (.cells #[.int .i64 kd', .bool y', .int .i64 z1', .int .i64 z2', .int .i64 z3', .int .i64 z4', .slice A1' nb' c1'] 28))) := Lib.hid ((al1 _ _).alloc (by simp) _)
        have HC := Lib.hid (HSM.out _ HA2.out)
        generalize hr : sameF true ⟨kd, y, z1, z2, z3, z4, bb⟩ ⟨kd', y', z1', z2', z3', z4', bb'⟩ = r at *
        clear hr HSM
        go_wp2_with fail
        refine HC.out.mono ?_
        rintro e w2 ⟨rfl, hb2⟩
        have HBE : Hid (Below w.heap.size w w2) := Lib.hid (HB.out.trans (Below.mono (After.next HA2.out hb2) HB.out.size))
        clear hb2 p0 p1 p2 p3 p4 p5 p6 s0 s1 s2 s3 s4 s5 s6
        cases r
        · have HF : Hid (SameTo w (allF true l m) (.returned (.bool false)) w2) := Lib.hid ⟨by rw [HNOK.out rfl], HBE.out⟩
          go_wp2
          go_ret
          exact HF.out
        · have HF : Hid (AllR w true l m (.int .i64 ((k : Int) + 1)) w2) := Lib.hid ⟨k + 1, rfl, by rw [HL.out]; omega, HST.out rfl, HBE.out⟩
          go_wp2
          go_roundw
          case rel => exact HF.out
          case measure => simp [intOf]; omega
      · obtain rfl : k = n := by omega
        have HF : Hid (SameTo w (allF true l m) (.returned (.bool true)) wr) := Lib.hid ⟨by rw [HYES.out HALL.out], HB.out⟩
        go_wp2
        go_ret
        exact HF.out
  · have hq : ((n : Int) != (n' : Int)) = true := by rw [bne_iff_ne]; omega
    have HF : Hid (SameTo w (allF true l m) (.returned (.bool false)) w) := Lib.hid ⟨by
      have : allF true l m = false := by unfold allF; rw [decide_eq_false_iff_not]; rintro ⟨h, _⟩; rw [HL.out, HL'.out] at h; exact hne h
      rw [this], Below.refl _ _⟩
    clear hv hv' hne HL HL'
    go_enter Try.func32, Try.ntmps32
    go_wp2
    go_ret
    exact HF.out
theorem plikeL_any (A A' : Option Addr) (n c n' c' : Nat) (l m : List Ac) (w : World) (hv : AcV w A n l) (hv' : AcV w A' n' m) (hn9 : n < 100000) (hn9' : n' < 100000) :
    Calls Try.prog 19 #[.slice A n c, .slice A' n' c'] w (SameTo w (allF true l m)) := by
  have H := Lib.hid (equalLike_any A A' n c n' c' l m w hv hv' hn9 hn9')
  clear hv hv'
  generalize allF true l m = R at *
  go_enter Try.func19, Try.ntmps19
  go_wp2_with fail
  refine H.out.mono ?_
  rintro e w1 ⟨rfl, hb⟩
  have HB := Lib.hid hb
  clear hb
  go_wp2
  go_ret
  exact ⟨rfl, HB.out⟩
end Go.Proofs.Ytkgmggjlnibgmaa
