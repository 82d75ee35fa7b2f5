/-
  A device: the first two bytes are loaded.
-/
import Derived.Test.YthigknolpdohoaaNvJ
namespace Go.Proofs.Ythigknolpdohoaa
open Go.RowKit Go
set_option linter.unusedVariables false
set_option linter.unusedSimpArgs false
set_option maxRecDepth 100000
/-- the call gives two bytes -/
def LdTo (w : World) (a b : Nat) (e : Ending) (w' : World) : Prop := e = .returned (.tuple #[.slice (some ⟨w.heap.size, 0, none⟩) 2 2, .int .i64 0]) ∧ Below w.heap.size w w' ∧ w'.heap[w.heap.size]? = some (.cells #[.int .u8 (a : Int), .int .u8 (b : Int)] 5 (0, 0))
def LdR (w : World) (a b : Nat) (iv : Value) (wr : World) : Prop := Below w.heap.size w wr ∧ ((iv = .int .i64 0 ∧ wr.heap[w.heap.size]? = some (.cells (zeros 2) 5 (0, 0))) ∨ (iv = .int .i64 2 ∧ wr.heap[w.heap.size]? = some (.cells #[.int .u8 (a : Int), .int .u8 (b : Int)] 5 (0, 0))))
theorem splice2 (a b : Value) : splice (zeros 2).toList 0 [a, b] = [a, b] := by simp [splice, zeros]
theorem ref02 {L : Nat} (h : 0 < L) : refS8 L false 0 2 = 0 := by
  unfold refS8 hasB
  simp
  omega
set_option maxHeartbeats 2000000 in
theorem load_M (g b L c k : Nat) (av pv : Value) (al : List Value) (u : Int) (ws : List Wd) (x : Wd) (w : World) (h : DevM w g b L c false av k al u pv ws) (hL0 : 0 < L) (hx : ws[0]? = some x) :
    Calls Try.prog 20 #[.pointer (some ⟨g, 0, none⟩), .int .i64 0, .int .i64 2] w (LdTo w (x.now.getD 0 0) (x.now.getD 1 0)) := by
  have HRF : Hid (Calls Try.prog 51 #[.pointer (some ⟨g, 0, none⟩), .int .i64 0, .int .i64 2] w fun e w' => e = .returned (.int .i64 0) ∧ w = w') := Lib.hid (by
    have := refuses_any g L c (some ⟨b, 0, none⟩) false av pv u 0 2 w h.dev.dev h.L1
    rw [ref02 hL0] at this
    exact this)
  have hmk : ∀ W : World, (Instr.makeSlice 28 (.int .i64 2) (.int .i64 2)).run Try.prog W = .ok (.slice (some ⟨W.heap.size, 0, none⟩) 2 2) (W.alloc (.cells (zeros 2) 5)) := fun W => make_bytes 2 (by omega) W
  have HWD : Hid (∀ W, Below w.heap.size w W → Calls Try.prog 52 #[.pointer (some ⟨g, 0, none⟩), .int .i64 0] W fun e w' => e = .returned (.pointer (some ⟨b, 0, none⟩)) ∧ w' = W) := Lib.hid (fun W hW => word_at g b L c 0 W ((hW.cell (p := ⟨g, 0, none⟩) h.dev.dev.lt).trans h.dev.dev.lines) (by omega) h.L1)
  have HN0 : Hid (∀ W, Below w.heap.size w W → W.cell? ⟨b, 8, none⟩ = some (.int .u8 ((x.now.getD 0 0 : Nat) : Int)) ∧ W.cell? ⟨b, 9, none⟩ = some (.int .u8 ((x.now.getD 1 0 : Nat) : Int))) := Lib.hid (fun W hW => ⟨(hW.cell (p := ⟨b, 8, none⟩) h.mem.lt).trans (h.mem.now hx 0 (by omega)), (hW.cell (p := ⟨b, 9, none⟩) h.mem.lt).trans (h.mem.now hx 1 (by omega))⟩)
  have hbl := h.mem.lt
  have HBL := Lib.hid hbl
  generalize x.now.getD 0 0 = n0 at *
  generalize x.now.getD 1 0 = n1 at *
  clear h hx
  go_enter Try.func20, Try.ntmps20
  go_wp2_with fail
  refine HRF.out.mono ?_
  rintro e w0 ⟨rfl, rfl⟩
  have HR : Hid (LdR w n0 n1 (.int .i64 0) (w.alloc (.cells (zeros 2) 5))) := Lib.hid ⟨(Below.refl _ _).alloc (Nat.le_refl _) _, .inl ⟨rfl, heap_alloc_new _ _⟩⟩
  clear HRF
  go_wp2_with fail
  go_loopw [10] (fun iv wr => LdR w n0 n1 iv wr) (fun iv _ => (2 - intOf iv).toNat)
  case atStart => exact HR.out
  case round =>
    clear HR hmk
    obtain ⟨hb, ⟨rfl, hq⟩ | ⟨rfl, hq⟩⟩ := hrel
    · have HB := Lib.hid hb
      have HQ := Lib.hid hq
      have HC8 := Lib.hid (HN0.out wr hb)
      have HWW := Lib.hid (HWD.out wr.drew hb.drew)
      have hcut : ∀ W : World, (Instr.sliceAt 72 (.pointer (some ⟨b, 8, none⟩)) (some (.int .i64 0)) none none).run Try.prog W = .ok (.slice (some ⟨b, 8, none⟩) 8 8) W := fun W => cut8 b 8 0 (by omega) W
      have hqs := blk_lt hq
      have hw0 : IntKind.i64.wrap 0 = 0 := by decide
      have hw2 : IntKind.i64.wrap 2 = 2 := by decide
      have hrm : (0 : Int).tmod 8 = 0 := by decide
      clear hb hq
      go_upto_region 7 with (fail)
      refine wp_region_F (S := (fun w' => Below w.heap.size w w')) [] (by kernel_rfl) (HB.out.drew) (fun hHeld => ?_)
      refine wpAnyF_take (i := 0) (oi := _) (v := ?_) rfl (by kernel_rfl) (by kernel_rfl) (by kernel_rfl) (by kernel_rfl) (fun _ _ _ h => h) (Or.inl ⟨by rfl, ?_⟩) (by assumption) ?_
      rotate_left 1
      · intro w hSw
        (try dsimp only at hSw)
        (first | (go_simp; done) | (go_simp; with_reducible rfl))
      (try simp only [Act.put, List.getElem_toArray, List.getElem_cons_succ, List.getElem_cons_zero, List.setIfInBounds_toArray, List.set_cons_zero, List.set_cons_succ])
      refine wpAnyF_take (i := 1) (oi := _) (v := ?_) rfl (by kernel_rfl) (by kernel_rfl) (by kernel_rfl) (by kernel_rfl) (fun _ _ _ h => h) (Or.inl ⟨by rfl, ?_⟩) (by assumption) ?_
      rotate_left 1
      · intro w hSw
        (try dsimp only at hSw)
        (first | (go_simp; done) | (go_simp; with_reducible rfl))
      (try simp only [Act.put, List.getElem_toArray, List.getElem_cons_succ, List.getElem_cons_zero, List.setIfInBounds_toArray, List.set_cons_zero, List.set_cons_succ])
      refine wpAnyF_take (i := 2) (oi := _) (v := ?_) rfl (by kernel_rfl) (by kernel_rfl) (by kernel_rfl) (by kernel_rfl) (fun _ _ _ h => h) (Or.inl ⟨by rfl, ?_⟩) (by assumption) ?_
      rotate_left 1
      · intro w hSw
        (try dsimp only at hSw)
        (first | (go_simp; done) | (go_simp; with_reducible rfl))
      (try simp only [Act.put, List.getElem_toArray, List.getElem_cons_succ, List.getElem_cons_zero, List.setIfInBounds_toArray, List.set_cons_zero, List.set_cons_succ])
      refine wpAnyF_take (i := 3) (oi := _) (v := ?_) rfl (by kernel_rfl) (by kernel_rfl) (by kernel_rfl) (by kernel_rfl) (fun _ _ _ h => h) (Or.inl ⟨by rfl, ?_⟩) (by assumption) ?_
      rotate_left 1
      · intro w hSw
        (try dsimp only at hSw)
        (first | (go_simp; done) | (go_simp; with_reducible rfl))
      (try simp only [Act.put, List.getElem_toArray, List.getElem_cons_succ, List.getElem_cons_zero, List.setIfInBounds_toArray, List.set_cons_zero, List.set_cons_succ])
      refine wpAnyF_take (i := 4) (oi := _) (v := ?_) rfl (by kernel_rfl) (by kernel_rfl) (by kernel_rfl) (by kernel_rfl) (fun _ _ _ h => h) (Or.inl ⟨by rfl, ?_⟩) (by assumption) ?_
      rotate_left 1
      · intro w hSw
        (try dsimp only at hSw)
        (first | (go_simp; done) | (go_simp; with_reducible rfl))
      (try simp only [Act.put, List.getElem_toArray, List.getElem_cons_succ, List.getElem_cons_zero, List.setIfInBounds_toArray, List.set_cons_zero, List.set_cons_succ])
      refine wpAnyF_take (i := 5) (oi := _) (v := ?_) rfl (by kernel_rfl) (by kernel_rfl) (by kernel_rfl) (by kernel_rfl) (fun _ _ _ h => h) (Or.inl ⟨by rfl, ?_⟩) (by assumption) ?_
      rotate_left 1
      · intro w hSw
        (try dsimp only at hSw)
        (first | (go_simp; done) | (go_simp; with_reducible rfl))
      (try simp only [Act.put, List.getElem_toArray, List.getElem_cons_succ, List.getElem_cons_zero, List.setIfInBounds_toArray, List.set_cons_zero, List.set_cons_succ])
      refine wpAnyF_take (i := 6) (oi := _) (v := ?_) rfl (by kernel_rfl) (by kernel_rfl) (by kernel_rfl) (by kernel_rfl) (fun _ _ _ h => h) (Or.inl ⟨by rfl, ?_⟩) (by assumption) ?_
      rotate_left 1
      · intro w hSw
        (try dsimp only at hSw)
        (first | (go_simp; done) | (go_simp; with_reducible rfl))
      (try simp only [Act.put, List.getElem_toArray, List.getElem_cons_succ, List.getElem_cons_zero, List.setIfInBounds_toArray, List.set_cons_zero, List.set_cons_succ])
      refine wpAnyF_take (i := 7) (oi := _) (v := ?_) rfl (by kernel_rfl) (by kernel_rfl) (by kernel_rfl) (by kernel_rfl) (fun _ _ _ h => h) (Or.inl ⟨by rfl, ?_⟩) (by assumption) ?_
      rotate_left 1
      · intro w hSw
        (try dsimp only at hSw)
        (first | (go_simp; done) | (go_simp; with_reducible rfl))
      (try simp only [Act.put, List.getElem_toArray, List.getElem_cons_succ, List.getElem_cons_zero, List.setIfInBounds_toArray, List.set_cons_zero, List.set_cons_succ])
      refine wpAnyF_take (i := 11) (oi := _) (v := ?_) rfl (by kernel_rfl) (by kernel_rfl) (by kernel_rfl) (by kernel_rfl) (fun _ _ _ h => h) (Or.inl ⟨by rfl, ?_⟩) (by assumption) ?_
      rotate_left 1
      · intro w hSw
        (try dsimp only at hSw)
        (first | (go_simp; done) | (go_simp; with_reducible rfl))
      (try simp only [Act.put, List.getElem_toArray, List.getElem_cons_succ, List.getElem_cons_zero, List.setIfInBounds_toArray, List.set_cons_zero, List.set_cons_succ])
      refine wpAnyF_take (i := 12) (oi := _) (v := ?_) rfl (by kernel_rfl) (by kernel_rfl) (by kernel_rfl) (by kernel_rfl) (fun _ _ _ h => h) (Or.inl ⟨by rfl, ?_⟩) (by assumption) ?_
      rotate_left 1
      · intro w hSw
        (try dsimp only at hSw)
        (first | (go_simp; done) | (go_simp; with_reducible rfl))
      (try simp only [Act.put, List.getElem_toArray, List.getElem_cons_succ, List.getElem_cons_zero, List.setIfInBounds_toArray, List.set_cons_zero, List.set_cons_succ])
      refine wpAnyF_take (i := 13) (oi := _) (v := ?_) rfl (by kernel_rfl) (by kernel_rfl) (by kernel_rfl) (by kernel_rfl) (fun _ _ _ h => h) (Or.inl ⟨by rfl, ?_⟩) (by assumption) ?_
      rotate_left 1
      · intro w hSw
        (try dsimp only at hSw)
        (first | (go_simp; done) | (go_simp; with_reducible rfl))
      (try simp only [Act.put, List.getElem_toArray, List.getElem_cons_succ, List.getElem_cons_zero, List.setIfInBounds_toArray, List.set_cons_zero, List.set_cons_succ])
      refine wpAnyF_take (i := 14) (oi := _) (v := ?_) rfl (by kernel_rfl) (by kernel_rfl) (by kernel_rfl) (by kernel_rfl) (fun _ _ _ h => h) (Or.inl ⟨by rfl, ?_⟩) (by assumption) ?_
      rotate_left 1
      · intro w hSw
        (try dsimp only at hSw)
        (first | (go_simp; done) | (go_simp; with_reducible rfl))
      (try simp only [Act.put, List.getElem_toArray, List.getElem_cons_succ, List.getElem_cons_zero, List.setIfInBounds_toArray, List.set_cons_zero, List.set_cons_succ])
      refine wpAnyF_ready (rs := [8]) (by kernel_rfl) (by simp) ?_
      refine AllReadyF.cons (o := _) rfl (fun K hK => ?_) AllReadyF.nil
      go_simp
      refine HWW.out.mono ?_
      rintro e w2 ⟨rfl, rfl⟩
      refine hK.out _ _ (HB.out.drew) (fun hHeld8 => ?_)
      clear hK K
      (try simp only [Act.put, List.getElem_toArray, List.getElem_cons_succ, List.getElem_cons_zero, List.setIfInBounds_toArray, List.set_cons_zero, List.set_cons_succ])
      refine wpAnyF_take (i := 9) (oi := _) (v := ?_) rfl (by kernel_rfl) (by kernel_rfl) (by kernel_rfl) (by kernel_rfl) (fun _ _ _ h => h) (Or.inl ⟨by rfl, ?_⟩) (by assumption) ?_
      rotate_left 1
      · intro w hSw
        (try dsimp only at hSw)
        (first | (go_simp; done) | (go_simp; with_reducible rfl))
      (try simp only [Act.put, List.getElem_toArray, List.getElem_cons_succ, List.getElem_cons_zero, List.setIfInBounds_toArray, List.set_cons_zero, List.set_cons_succ])
      refine wpAnyF_take (i := 10) (oi := _) (v := ?_) rfl (by kernel_rfl) (by kernel_rfl) (by kernel_rfl) (by kernel_rfl) (fun _ _ _ h => h) (Or.inl ⟨by rfl, ?_⟩) (by assumption) ?_
      rotate_left 1
      · intro w hSw
        (try dsimp only at hSw)
        (first | (go_simp; done) | (go_simp; with_reducible rfl))
      (try simp only [Act.put, List.getElem_toArray, List.getElem_cons_succ, List.getElem_cons_zero, List.setIfInBounds_toArray, List.set_cons_zero, List.set_cons_succ])
      refine wpAnyF_take (i := 15) (oi := _) (v := ?_) rfl (by kernel_rfl) (by kernel_rfl) (by kernel_rfl) (by kernel_rfl) (fun _ _ _ h => h) (Or.inl ⟨by rfl, ?_⟩) (by assumption) ?_
      rotate_left 1
      · intro w hSw
        (try dsimp only at hSw)
        (first | (go_simp; done) | (go_simp; with_reducible rfl))
      (try simp only [Act.put, List.getElem_toArray, List.getElem_cons_succ, List.getElem_cons_zero, List.setIfInBounds_toArray, List.set_cons_zero, List.set_cons_succ])
      refine wpAnyF_ready (rs := [16]) (by kernel_rfl) (by simp) ?_
      refine AllReadyF.cons (o := _) rfl (fun K hK => ?_) AllReadyF.nil
      refine step_copy_splice rfl (.tmp 26) (.tmp 38) 28 28 rfl 5 Try.underlying28 (by kernel_rfl) (some ⟨w.heap.size, 0, none⟩) (some ⟨b, 8, none⟩) 2 2 8 8 rfl rfl w.heap.size 0 (zeros 2).toList 5 HQ.out [.int .u8 (n0 : Int), .int .u8 (n1 : Int)] rfl (fun _ => ⟨rfl, _, rfl, fun j v hj => ?_⟩) (by simp [zeros]) (fun v hv => by simp at hv; rcases hv with rfl | rfl <;> rfl) w.heap.size w (Below.drew HB.out) (Nat.le_refl _) ?_
      · match j, hj with
        | 0, hj => have := Option.some.inj hj; subst this; exact HC8.out.1
        | 1, hj => have := Option.some.inj hj; subst this; exact HC8.out.2
      intro w3 hq3 hb3
      rw [splice2] at hq3
      have HQ3 := Lib.hid hq3.out
      have HB3 := Lib.hid hb3
      clear hq3 hb3
      rw [show goInt (([Value.int IntKind.u8 (n0 : Int), Value.int IntKind.u8 (n1 : Int)] : List Value).length : Nat) = Value.int .i64 2 from rfl]
      refine hK.out _ _ (HB3.out) (fun hHeld16 => ?_)
      clear hK K
      (try simp only [Act.put, List.getElem_toArray, List.getElem_cons_succ, List.getElem_cons_zero, List.setIfInBounds_toArray, List.set_cons_zero, List.set_cons_succ])
      refine wpAnyF_take (i := 17) (oi := _) (v := ?_) rfl (by kernel_rfl) (by kernel_rfl) (by kernel_rfl) (by kernel_rfl) (fun _ _ _ h => h) (Or.inl ⟨by rfl, ?_⟩) (by assumption) ?_
      rotate_left 1
      · intro w hSw
        (try dsimp only at hSw)
        (first | (go_simp; done) | (go_simp; with_reducible rfl))
      (try simp only [Act.put, List.getElem_toArray, List.getElem_cons_succ, List.getElem_cons_zero, List.setIfInBounds_toArray, List.set_cons_zero, List.set_cons_succ])
      refine wpAnyF_take (i := 18) (oi := _) (v := ?_) rfl (by kernel_rfl) (by kernel_rfl) (by kernel_rfl) (by kernel_rfl) (fun _ _ _ h => h) (Or.inl ⟨by rfl, ?_⟩) (by assumption) ?_
      rotate_left 1
      · intro w hSw
        (try dsimp only at hSw)
        (first | (go_simp; done) | (go_simp; with_reducible rfl))
      (try simp only [Act.put, List.getElem_toArray, List.getElem_cons_succ, List.getElem_cons_zero, List.setIfInBounds_toArray, List.set_cons_zero, List.set_cons_succ])
      refine wpAnyF_done (by kernel_rfl) ?_ _
      have HG : Hid (LdR w n0 n1 (.int .i64 2) w3) := Lib.hid ⟨HB3.out, .inr ⟨rfl, HQ3.out⟩⟩
      go_roundw
      case rel => exact ⟨_, _, _, _, _, _, _, _, _, _, _, _, _, _, _, _, _, _, _, _, _, _, HG.out, rfl⟩
      case measure => simp [intOf]
    · have HF : Hid (LdTo w n0 n1 (.returned (.tuple #[.slice (some ⟨w.heap.size, 0, none⟩) 2 2, .int .i64 0])) wr) := Lib.hid ⟨rfl, hb, hq⟩
      clear hb hq
      go_wp2
      exact bodyPost_ret (v := .tuple #[.slice (some ⟨w.heap.size, 0, none⟩) 2 2, .int .i64 0]) (by simp [results, Try.results20, go_sem]) rfl HF.out
end Go.Proofs.Ythigknolpdohoaa
