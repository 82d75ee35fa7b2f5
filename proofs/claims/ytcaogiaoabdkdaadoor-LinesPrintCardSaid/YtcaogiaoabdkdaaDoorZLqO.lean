/-
  Joined: ScN, LqO.
-/
import Derived.Test.YtcaogiaoabdkdaaDoorZScL
import Derived.Test.YtcaogiaoabdkdaaDoorZLqN
namespace Go.Proofs.YtcaogiaoabdkdaaDoor
set_option maxRecDepth 100000
section
open Go.RowKit Go
set_option linter.unusedVariables false
set_option linter.unusedSimpArgs false
set_option maxRecDepth 100000
def AllR (w : World) (like : Bool) (l m : List Ac) (iv : Value) (wr : World) : Prop := ∃ k : Nat, iv = .int .i64 (k : Int) ∧ k ≤ l.length ∧ (∀ i, i < k → sameF like (aAt l i) (aAt m i) = true) ∧ Below w.heap.size w wr
set_option maxHeartbeats 8000000 in
theorem rall27_any (A A' : Option Addr) (n c n' c' : Nat) (l m : List Ac) (like : Bool) (w : World) (hv : AcV w A n l) (hv' : AcV w A' n' m) (hn9 : n < 100000) (hn9' : n' < 100000) :
    Calls Tryd.prog 14 #[.slice A n c, .slice A' n' c', .bool like] w (SameTo w (allF like l m)) := by
  have HL := Lib.hid hv.1
  have HL' := Lib.hid hv'.1
  by_cases hne : n = n'
  · subst hne
    have HV := Lib.hid hv
    have HV' := Lib.hid hv'
    have HNO : Hid (∀ k, k < n → sameF like (aAt l k) (aAt m k) = false → allF like l m = false) := Lib.hid (fun k hk h => by
      unfold allF; rw [decide_eq_false_iff_not]; rintro ⟨_, h2⟩
      have := h2 k (by rw [HL.out]; exact hk)
      rw [h] at this; cases this)
    have HYES : Hid ((∀ i, i < n → sameF like (aAt l i) (aAt m i) = true) → allF like l m = true) := Lib.hid (fun h => by
      unfold allF; rw [decide_eq_true_eq]; exact ⟨by rw [HL.out, HL'.out], fun i hi => h i (by rw [HL.out] at hi; exact hi)⟩)
    have HR : Hid (AllR w like l m (.int .i64 0) w) := Lib.hid ⟨0, rfl, by omega, fun i hi => by omega, Below.refl _ _⟩
    clear hv hv'
    go_enter Tryd.func14, Tryd.ntmps14
    go_wp2_with fail
    go_loopw [15] (fun iv wr => AllR w like l m iv wr) (fun iv _ => (n - intOf iv).toNat)
    case atStart => exact HR.out
    case round =>
      clear HR
      obtain ⟨k, rfl, hk, hall, hb⟩ := hrel
      have HALL := Lib.hid hall
      have HB := Lib.hid hb
      clear hall hb
      rw [HL.out] at hk
      by_cases hlt : k < n
      · obtain ⟨b, o, A1, c1, rfl, hb0, q0, q1, q2, q3, q4, q5, q6, hs1, hz1⟩ := HV.out.at_ hlt
        obtain ⟨b', o', A1', c1', rfl, hb0', r0, r1, r2, r3, r4, r5, r6, hs1', hz1'⟩ := HV'.out.at_ hlt
        have p0 : wr.cell? ⟨b, o + k * 7, none⟩ = some (.int .i64 (aAt l k).kind) := (HB.out.cell (p := ⟨b, o + k * 7, none⟩) hb0).trans q0
        have p1 : wr.cell? ⟨b, o + k * 7 + 1, none⟩ = some (.bool (aAt l k).yes) := (HB.out.cell (p := ⟨b, o + k * 7 + 1, none⟩) hb0).trans q1
        have p2 : wr.cell? ⟨b, o + k * 7 + 2, none⟩ = some (.int .i64 (aAt l k).which) := (HB.out.cell (p := ⟨b, o + k * 7 + 2, none⟩) hb0).trans q2
        have p3 : wr.cell? ⟨b, o + k * 7 + 3, none⟩ = some (.int .i64 (aAt l k).k) := (HB.out.cell (p := ⟨b, o + k * 7 + 3, none⟩) hb0).trans q3
        have p4 : wr.cell? ⟨b, o + k * 7 + 4, none⟩ = some (.int .i64 (aAt l k).n) := (HB.out.cell (p := ⟨b, o + k * 7 + 4, none⟩) hb0).trans q4
        have p5 : wr.cell? ⟨b, o + k * 7 + 5, none⟩ = some (.int .i64 (aAt l k).pos) := (HB.out.cell (p := ⟨b, o + k * 7 + 5, none⟩) hb0).trans q5
        have p6 : wr.cell? ⟨b, o + k * 7 + 6, none⟩ = some (.slice A1 (aAt l k).b.length c1) := (HB.out.cell (p := ⟨b, o + k * 7 + 6, none⟩) hb0).trans q6
        have s0 : wr.cell? ⟨b', o' + k * 7, none⟩ = some (.int .i64 (aAt m k).kind) := (HB.out.cell (p := ⟨b', o' + k * 7, none⟩) hb0').trans r0
        have s1 : wr.cell? ⟨b', o' + k * 7 + 1, none⟩ = some (.bool (aAt m k).yes) := (HB.out.cell (p := ⟨b', o' + k * 7 + 1, none⟩) hb0').trans r1
        have s2 : wr.cell? ⟨b', o' + k * 7 + 2, none⟩ = some (.int .i64 (aAt m k).which) := (HB.out.cell (p := ⟨b', o' + k * 7 + 2, none⟩) hb0').trans r2
        have s3 : wr.cell? ⟨b', o' + k * 7 + 3, none⟩ = some (.int .i64 (aAt m k).k) := (HB.out.cell (p := ⟨b', o' + k * 7 + 3, none⟩) hb0').trans r3
        have s4 : wr.cell? ⟨b', o' + k * 7 + 4, none⟩ = some (.int .i64 (aAt m k).n) := (HB.out.cell (p := ⟨b', o' + k * 7 + 4, none⟩) hb0').trans r4
        have s5 : wr.cell? ⟨b', o' + k * 7 + 5, none⟩ = some (.int .i64 (aAt m k).pos) := (HB.out.cell (p := ⟨b', o' + k * 7 + 5, none⟩) hb0').trans r5
        have s6 : wr.cell? ⟨b', o' + k * 7 + 6, none⟩ = some (.slice A1' (aAt m k).b.length c1') := (HB.out.cell (p := ⟨b', o' + k * 7 + 6, none⟩) hb0').trans r6
        have hlt1 : b < wr.heap.size := Nat.lt_of_lt_of_le hb0 HB.out.size
        have hlt2 : b' < wr.heap.size := Nat.lt_of_lt_of_le hb0' HB.out.size
        have HSM : Hid (∀ V, After wr V → Calls Tryd.prog 31 #[.agg #[.int .i64 (aAt l k).kind, .bool (aAt l k).yes, .int .i64 (aAt l k).which, .int .i64 (aAt l k).k, .int .i64 (aAt l k).n, .int .i64 (aAt l k).pos, .slice A1 (aAt l k).b.length c1], .agg #[.int .i64 (aAt m k).kind, .bool (aAt m k).yes, .int .i64 (aAt m k).which, .int .i64 (aAt m k).k, .int .i64 (aAt m k).n, .int .i64 (aAt m k).pos, .slice A1' (aAt m k).b.length c1'], .bool like] V (SameTo V (sameF like ⟨(aAt l k).kind, (aAt l k).yes, (aAt l k).which, (aAt l k).k, (aAt l k).n, (aAt l k).pos, (aAt l k).b⟩ ⟨(aAt m k).kind, (aAt m k).yes, (aAt m k).which, (aAt m k).k, (aAt m k).n, (aAt m k).pos, (aAt m k).b⟩))) := Lib.hid (fun V hV => by
          have hwV : Below w.heap.size w V := HB.out.trans (Below.mono hV HB.out.size)
          exact rsame_in _ _ _ _ _ _ A1 _ c1 _ _ _ _ _ _ A1' _ c1' _ _ like V ((hs1.below hwV).more hwV.size) ((hs1'.below hwV).more hwV.size))
        have HNOK := Lib.hid (HNO.out k hlt)
        have HST := Lib.hid (fun (h : sameF like (aAt l k) (aAt m k) = true) (i : Nat) (hi : i < k + 1) => (by
          by_cases e : i = k
          · rw [e]; exact h
          · exact HALL.out i (by omega) : sameF like (aAt l i) (aAt m i) = true))
        have HEQ : Hid (sameF like (aAt l k) (aAt m k) = sameF like ⟨(aAt l k).kind, (aAt l k).yes, (aAt l k).which, (aAt l k).k, (aAt l k).n, (aAt l k).pos, (aAt l k).b⟩ ⟨(aAt m k).kind, (aAt m k).yes, (aAt m k).which, (aAt m k).k, (aAt m k).n, (aAt m k).pos, (aAt m k).b⟩) := Lib.hid rfl
        rw [HEQ.out] at HNOK HST
        clear q0 q1 q2 q3 q4 q5 q6 r0 r1 r2 r3 r4 r5 r6 hs1 hs1' hz1 hz1' HEQ
        generalize (aAt l k).kind = kd at *
        generalize (aAt l k).yes = y at *
        generalize (aAt l k).which = z1 at *
        generalize (aAt l k).k = z2 at *
        generalize (aAt l k).n = z3 at *
        generalize (aAt l k).pos = z4 at *
        generalize (aAt m k).kind = kd' at *
        generalize (aAt m k).yes = y' at *
        generalize (aAt m k).which = z1' at *
        generalize (aAt m k).k = z2' at *
        generalize (aAt m k).n = z3' at *
        generalize (aAt m k).pos = z4' at *
        generalize (aAt l k).b = bb at *
        generalize (aAt m k).b = bb' at *
        generalize bb.length = nb at *
        generalize bb'.length = nb' at *
        have KS : Hid (∀ w', After wr w' → (w'.cell? ⟨b, o + k * 7, none⟩ = some (.int .i64 kd) ∧ w'.cell? ⟨b, o + k * 7 + 1, none⟩ = some (.bool y) ∧ w'.cell? ⟨b, o + k * 7 + 2, none⟩ = some (.int .i64 z1) ∧ w'.cell? ⟨b, o + k * 7 + 3, none⟩ = some (.int .i64 z2) ∧ w'.cell? ⟨b, o + k * 7 + 4, none⟩ = some (.int .i64 z3) ∧ w'.cell? ⟨b, o + k * 7 + 5, none⟩ = some (.int .i64 z4) ∧ w'.cell? ⟨b, o + k * 7 + 6, none⟩ = some (.slice A1 nb c1)) ∧ (w'.cell? ⟨b', o' + k * 7, none⟩ = some (.int .i64 kd') ∧ w'.cell? ⟨b', o' + k * 7 + 1, none⟩ = some (.bool y') ∧ w'.cell? ⟨b', o' + k * 7 + 2, none⟩ = some (.int .i64 z1') ∧ w'.cell? ⟨b', o' + k * 7 + 3, none⟩ = some (.int .i64 z2') ∧ w'.cell? ⟨b', o' + k * 7 + 4, none⟩ = some (.int .i64 z3') ∧ w'.cell? ⟨b', o' + k * 7 + 5, none⟩ = some (.int .i64 z4') ∧ w'.cell? ⟨b', o' + k * 7 + 6, none⟩ = some (.slice A1' nb' c1'))) := Lib.hid (fun w' hw => ⟨⟨(Below.cell hw (p := ⟨b, o + k * 7, none⟩) hlt1).trans p0, (Below.cell hw (p := ⟨b, o + k * 7 + 1, none⟩) hlt1).trans p1, (Below.cell hw (p := ⟨b, o + k * 7 + 2, none⟩) hlt1).trans p2, (Below.cell hw (p := ⟨b, o + k * 7 + 3, none⟩) hlt1).trans p3, (Below.cell hw (p := ⟨b, o + k * 7 + 4, none⟩) hlt1).trans p4, (Below.cell hw (p := ⟨b, o + k * 7 + 5, none⟩) hlt1).trans p5, (Below.cell hw (p := ⟨b, o + k * 7 + 6, none⟩) hlt1).trans p6⟩, ⟨(Below.cell hw (p := ⟨b', o' + k * 7, none⟩) hlt2).trans s0, (Below.cell hw (p := ⟨b', o' + k * 7 + 1, none⟩) hlt2).trans s1, (Below.cell hw (p := ⟨b', o' + k * 7 + 2, none⟩) hlt2).trans s2, (Below.cell hw (p := ⟨b', o' + k * 7 + 3, none⟩) hlt2).trans s3, (Below.cell hw (p := ⟨b', o' + k * 7 + 4, none⟩) hlt2).trans s4, (Below.cell hw (p := ⟨b', o' + k * 7 + 5, none⟩) hlt2).trans s5, (Below.cell hw (p := ⟨b', o' + k * 7 + 6, none⟩) hlt2).trans s6⟩⟩)
        go_upto_region 6 with (fail)
        refine wp_region_F (S := (fun w' => (w'.cell? ⟨b, o + k * 7, none⟩ = some (.int .i64 kd) ∧ w'.cell? ⟨b, o + k * 7 + 1, none⟩ = some (.bool y) ∧ w'.cell? ⟨b, o + k * 7 + 2, none⟩ = some (.int .i64 z1) ∧ w'.cell? ⟨b, o + k * 7 + 3, none⟩ = some (.int .i64 z2) ∧ w'.cell? ⟨b, o + k * 7 + 4, none⟩ = some (.int .i64 z3) ∧ w'.cell? ⟨b, o + k * 7 + 5, none⟩ = some (.int .i64 z4) ∧ w'.cell? ⟨b, o + k * 7 + 6, none⟩ = some (.slice A1 nb c1)) ∧ (w'.cell? ⟨b', o' + k * 7, none⟩ = some (.int .i64 kd') ∧ w'.cell? ⟨b', o' + k * 7 + 1, none⟩ = some (.bool y') ∧ w'.cell? ⟨b', o' + k * 7 + 2, none⟩ = some (.int .i64 z1') ∧ w'.cell? ⟨b', o' + k * 7 + 3, none⟩ = some (.int .i64 z2') ∧ w'.cell? ⟨b', o' + k * 7 + 4, none⟩ = some (.int .i64 z3') ∧ w'.cell? ⟨b', o' + k * 7 + 5, none⟩ = some (.int .i64 z4') ∧ w'.cell? ⟨b', o' + k * 7 + 6, none⟩ = some (.slice A1' nb' c1')))) [] (by kernel_rfl) (KS.out _ (After.drew wr)) (fun hHeld => ?_)
        refine wpAnyF_take (i := 0) (oi := _) (v := ?_) rfl (by kernel_rfl) (by kernel_rfl) (by kernel_rfl) (by kernel_rfl) (fun _ _ _ h => h) (Or.inl ⟨by rfl, ?_⟩) (by assumption) ?_
        rotate_left 1
        · intro w hSw
          (try dsimp only at hSw)
          (first | (go_simp; done) | (go_simp; with_reducible rfl))
        (try simp only [Act.put, List.getElem_toArray, List.getElem_cons_succ, List.getElem_cons_zero, List.setIfInBounds_toArray, List.set_cons_zero, List.set_cons_succ])
        refine wpAnyF_take (i := 1) (oi := _) (v := ?_) rfl (by kernel_rfl) (by kernel_rfl) (by kernel_rfl) (by kernel_rfl) (fun _ _ _ h => h) (Or.inl ⟨by rfl, ?_⟩) (by assumption) ?_
        rotate_left 1
        · intro w hSw
          (try dsimp only at hSw)
          (first | (go_simp; done) | (go_simp; with_reducible rfl))
        (try simp only [Act.put, List.getElem_toArray, List.getElem_cons_succ, List.getElem_cons_zero, List.setIfInBounds_toArray, List.set_cons_zero, List.set_cons_succ])
        refine wpAnyF_take (i := 2) (oi := _) (v := ?_) rfl (by kernel_rfl) (by kernel_rfl) (by kernel_rfl) (by kernel_rfl) (fun _ _ _ h => h) (Or.inl ⟨by rfl, ?_⟩) (by assumption) ?_
        rotate_left 1
        · intro w hSw
          (try dsimp only at hSw)
          (first | (go_simp; done) | (go_simp; with_reducible rfl))
        (try simp only [Act.put, List.getElem_toArray, List.getElem_cons_succ, List.getElem_cons_zero, List.setIfInBounds_toArray, List.set_cons_zero, List.set_cons_succ])
        refine wpAnyF_take (i := 3) (oi := _) (v := ?_) rfl (by kernel_rfl) (by kernel_rfl) (by kernel_rfl) (by kernel_rfl) (fun _ _ _ h => h) (Or.inl ⟨by rfl, ?_⟩) (by assumption) ?_
        rotate_left 1
        · intro w hSw
          (try dsimp only at hSw)
          (first | (go_simp; done) | (go_simp; with_reducible rfl))
        (try simp only [Act.put, List.getElem_toArray, List.getElem_cons_succ, List.getElem_cons_zero, List.setIfInBounds_toArray, List.set_cons_zero, List.set_cons_succ])
        refine wpAnyF_take (i := 4) (oi := _) (v := ?_) rfl (by kernel_rfl) (by kernel_rfl) (by kernel_rfl) (by kernel_rfl) (fun _ _ _ h => h) (Or.inl ⟨by rfl, ?_⟩) (by assumption) ?_
        rotate_left 1
        · intro w hSw
          (try dsimp only at hSw)
          (first | (go_simp; done) | (go_simp; with_reducible rfl))
        (try simp only [Act.put, List.getElem_toArray, List.getElem_cons_succ, List.getElem_cons_zero, List.setIfInBounds_toArray, List.set_cons_zero, List.set_cons_succ])
        refine wpAnyF_take (i := 5) (oi := _) (v := ?_) rfl (by kernel_rfl) (by kernel_rfl) (by kernel_rfl) (by kernel_rfl) (fun _ _ _ h => h) (Or.inl ⟨by rfl, ?_⟩) (by assumption) ?_
        rotate_left 1
        · intro w hSw
          (try dsimp only at hSw)
          (first | (go_simp; done) | (go_simp; with_reducible rfl))
        (try simp only [Act.put, List.getElem_toArray, List.getElem_cons_succ, List.getElem_cons_zero, List.setIfInBounds_toArray, List.set_cons_zero, List.set_cons_succ])
        refine wpAnyF_take (i := 6) (oi := _) (v := ?_) rfl (by kernel_rfl) (by kernel_rfl) (by kernel_rfl) (by kernel_rfl) (fun _ _ _ h => h) (Or.inl ⟨by rfl, ?_⟩) (by assumption) ?_
        rotate_left 1
        · intro w hSw
          (try dsimp only at hSw)
          (first | (go_simp; done) | (go_simp; with_reducible rfl))
        (try simp only [Act.put, List.getElem_toArray, List.getElem_cons_succ, List.getElem_cons_zero, List.setIfInBounds_toArray, List.set_cons_zero, List.set_cons_succ])
        refine wpAnyF_take (i := 7) (oi := _) (v := ?_) rfl (by kernel_rfl) (by kernel_rfl) (by kernel_rfl) (by kernel_rfl) (fun _ _ _ h => h) (Or.inl ⟨by rfl, ?_⟩) (by assumption) ?_
        rotate_left 1
        · intro w hSw
          (try dsimp only at hSw)
          (first | (go_simp; done) | (go_simp; with_reducible rfl))
        (try simp only [Act.put, List.getElem_toArray, List.getElem_cons_succ, List.getElem_cons_zero, List.setIfInBounds_toArray, List.set_cons_zero, List.set_cons_succ])
        refine wpAnyF_take (i := 8) (oi := _) (v := ?_) rfl (by kernel_rfl) (by kernel_rfl) (by kernel_rfl) (by kernel_rfl) (fun _ _ _ h => h) (Or.inl ⟨by rfl, ?_⟩) (by assumption) ?_
        rotate_left 1
        · intro w hSw
          (try dsimp only at hSw)
          (first | (go_simp; done) | (go_simp; with_reducible rfl))
        (try simp only [Act.put, List.getElem_toArray, List.getElem_cons_succ, List.getElem_cons_zero, List.setIfInBounds_toArray, List.set_cons_zero, List.set_cons_succ])
        refine wpAnyF_ready (rs := [9]) (by kernel_rfl) (by simp) ?_
        refine AllReadyF.cons (o := _) rfl (fun K hK => ?_) AllReadyF.nil
        go_simp
        refine (HSM.out _ (After.drew wr)).mono ?_
        rintro e w2 ⟨rfl, hb2⟩
        have HA2 : Hid (After wr w2) := Lib.hid (After.of_drew hb2)
        clear hb2
        generalize sameF like ⟨kd, y, z1, z2, z3, z4, bb⟩ ⟨kd', y', z1', z2', z3', z4', bb'⟩ = r at *
        refine hK.out _ _ (KS.out _ HA2.out) (fun hHeld9 => ?_)
        clear hK K
        (try simp only [Act.put, List.getElem_toArray, List.getElem_cons_succ, List.getElem_cons_zero, List.setIfInBounds_toArray, List.set_cons_zero, List.set_cons_succ])
        refine wpAnyF_take (i := 10) (oi := _) (v := ?_) rfl (by kernel_rfl) (by kernel_rfl) (by kernel_rfl) (by kernel_rfl) (fun _ _ _ h => h) (Or.inl ⟨by rfl, ?_⟩) (by assumption) ?_
        rotate_left 1
        · intro w hSw
          (try dsimp only at hSw)
          (first | (go_simp; done) | (go_simp; with_reducible rfl))
        (try simp only [Act.put, List.getElem_toArray, List.getElem_cons_succ, List.getElem_cons_zero, List.setIfInBounds_toArray, List.set_cons_zero, List.set_cons_succ])
        refine wpAnyF_done (by kernel_rfl) ?_ _
        have HBE : Hid (Below w.heap.size w w2) := Lib.hid (HB.out.trans (Below.mono HA2.out HB.out.size))
        cases r
        · have HF : Hid (SameTo w (allF like l m) (.returned (.bool false)) w2) := Lib.hid ⟨by rw [HNOK.out rfl], HBE.out⟩
          go_wp2
          go_ret
          exact HF.out
        · have HF : Hid (AllR w like l m (.int .i64 ((k : Int) + 1)) w2) := Lib.hid ⟨k + 1, rfl, by rw [HL.out]; omega, HST.out rfl, HBE.out⟩
          go_wp2
          go_roundw
          case rel => exact HF.out
          case measure => simp [intOf]; omega
      · obtain rfl : k = n := by omega
        have HF : Hid (SameTo w (allF like l m) (.returned (.bool true)) wr) := Lib.hid ⟨by rw [HYES.out HALL.out], HB.out⟩
        go_wp2
        go_ret
        exact HF.out
  · have hq : ((n : Int) != (n' : Int)) = true := by rw [bne_iff_ne]; omega
    have HF : Hid (SameTo w (allF like l m) (.returned (.bool false)) w) := Lib.hid ⟨by
      have : allF like l m = false := by unfold allF; rw [decide_eq_false_iff_not]; rintro ⟨h, _⟩; rw [HL.out, HL'.out] at h; exact hne h
      rw [this], Below.refl _ _⟩
    clear hv hv' hne HL HL'
    go_enter Tryd.func14, Tryd.ntmps14
    go_wp2
    go_ret
    exact HF.out
end
section
open Go.RowKit Go
set_option linter.unusedVariables false
set_option linter.unusedSimpArgs false
set_option maxRecDepth 1000000
set_option maxHeartbeats 2000000
def exT : List Nat := [111, 112, 101, 110, 32, 119, 114, 105, 116, 101, 32, 35, 32, 103, 111, 10, 119, 114, 105, 116, 101, 32, 48, 32, 51, 32, 54, 56, 54, 57]
def exL : List Ac := [⟨1, true, 0, 0, 0, 0, []⟩, ⟨9, false, 0, 0, 0, 3, [104, 105]⟩]
theorem exT_parse : parseT exT = (exL, 0) := by first | rfl | kernel_rfl
theorem exT_const : (⟨#[111, 112, 101, 110, 32, 119, 114, 105, 116, 101, 32, 35, 32, 103, 111, 10, 119, 114, 105, 116, 101, 32, 48, 32, 51, 32, 54, 56, 54, 57]⟩ : ByteArray) = str exT := rfl
theorem hi_const : (⟨#[104, 105]⟩ : ByteArray) = str [104, 105] := rfl
theorem awake31_any (w : World) (hK : Kn w) : Calls Tryd.prog 12 #[] w (SameTo w true) := by
  have HC : Hid (Calls Tryd.prog 13 #[.string ⟨#[111, 112, 101, 110, 32, 119, 114, 105, 116, 101, 32, 35, 32, 103, 111, 10, 119, 114, 105, 116, 101, 32, 48, 32, 51, 32, 54, 56, 54, 57]⟩] w (LPaTo w exT)) := Lib.hid (by
    rw [exT_const]
    exact lparse_any exT (by decide) (by decide) w hK)
  go_enter Tryd.func12, Tryd.ntmps12
  go_wp2_with fail
  refine HC.out.mono ?_
  rintro e w1 ⟨v, l, k, er, rfl, hb1, ho, hp, h0, h1⟩
  rw [exT_parse] at hp
  obtain ⟨rfl, rfl⟩ : exL = l ∧ 0 = k := by injection hp with h1 h2; exact ⟨h1, h2⟩
  obtain rfl := h0 rfl
  have HB1 := Lib.hid hb1
  obtain ⟨A, c, rfl, hv, hc1, hc2, hc3⟩ := ho.acV (Nat.le_refl _) hb1.size
  obtain ⟨b, o, A1, c1, e1, hb0, q0, q1, q2, q3, q4, q5, q6, hs1, hz1⟩ := hv.at_ (i := 0) (by decide)
  obtain ⟨b', o', A2, c2, e2, hb0', r0, r1, r2, r3, r4, r5, r6, hs2, hz2⟩ := hv.at_ (i := 1) (by decide)
  obtain ⟨rfl, rfl⟩ : b' = b ∧ o' = o := by rw [e1] at e2; injection e2 with e2; injection e2 with e3 e4; exact ⟨e3.symm, e4.symm⟩
  subst e1
  have a0 : aAt exL 0 = ⟨1, true, 0, 0, 0, 0, []⟩ := rfl
  have a1 : aAt exL 1 = ⟨9, false, 0, 0, 0, 3, [104, 105]⟩ := rfl
  rw [a0] at q0 q1
  rw [a1] at r5 r6 hs2
  dsimp only at q0 q1 r5 r6 hs2
  have hl : exL.length = 2 := rfl
  rw [hl]
  have hcv : (convert 24 9 (.slice A2 2 c2)).run Tryd.prog w1 = .ok (.string (str [104, 105])) w1 := conv_at hs2
  have hq := str_toList hs2.byte hs2.byte
  rw [decide_eq_true rfl] at hq
  have hq2 := hi_const
  rw [← hq2] at hcv hq
  simp only [Nat.zero_mul, Nat.one_mul, Nat.add_zero] at q0 q1 r5 r6
  clear hv hc1 hc2 hc3 ho hb1 hs1 hs2 hz1 hz2 e2 q2 q3 q4 q5 q6 r0 r1 r2 r3 r4 h1 h0 hp hK HC a0 a1 hl hq2
  go_wp2
  go_ret
  exact ⟨rfl, HB1.out⟩
end
end Go.Proofs.YtcaogiaoabdkdaaDoor
