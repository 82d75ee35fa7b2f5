/-
  The library's IndexRune among the two blanks; what a string's runes are that are no bytes.
-/
import Derived.Test.YtcaogiaoabdkdaaDoorZLqC
import Derived.Lib.OthersKept
import Derived.Laws.Runes
import Derived.WalkMore
namespace Go.Proofs.YtcaogiaoabdkdaaDoor
open Go.RowKit Go Go.Shelf
set_option linter.unusedVariables false
set_option linter.unusedSimpArgs false
set_option maxRecDepth 1000000
set_option maxHeartbeats 1000000
theorem get_bang {l : List Nat} (hl : ∀ i, l.getD i 0 < 256) {i : Nat} (hi : i < l.length) : ((str l).get! i).toNat = l.getD i 0 := by
  have h2 : i < (str l).size := by rw [str_size]; exact hi
  have e := str_idx hl hi h2
  have e2 : (str l).get! i = (str l)[i]'h2 := by
    generalize str l = S at *
    cases S with
    | mk d => exact getElem!_pos d i h2
  rw [e2]
  have := e
  simpa using this
/-- what the rune is that begins with a byte above 127: none below 128, and the bytes that it takes are above 127 -/
theorem dec_high {l : List Nat} (hl : ∀ i, l.getD i 0 < 256) {i : Nat} (hi : i < l.length) (h : 128 ≤ l.getD i 0) :
    ∃ c k, Utf8.decode (str l) i = (c, k) ∧ 128 ≤ c ∧ c ≤ 1114111 ∧ 1 ≤ k ∧ i + k ≤ l.length ∧ ∀ j, j < k → 128 ≤ l.getD (i + j) 0 := by
  have g0 : ((str l).get! (i + 0)).toNat = l.getD i 0 := get_bang hl hi
  have hz := str_size l
  have hb := hl i
  have one : ∀ c, 128 ≤ c → c ≤ 1114111 → ∃ c' k, (c, 1) = (c', k) ∧ 128 ≤ c' ∧ c' ≤ 1114111 ∧ 1 ≤ k ∧ i + k ≤ l.length ∧ ∀ j, j < k → 128 ≤ l.getD (i + j) 0 := fun c h1 h2 => ⟨c, 1, rfl, h1, h2, Nat.le_refl _, by omega, fun j hj => (by have e : j = 0 := (by omega); subst e; exact h)⟩
  have er : (128 : Nat) ≤ Utf8.runeError ∧ Utf8.runeError ≤ 1114111 := by decide
  have cont : ∀ k, (decide (i + k < (str l).size) && ((str l).get! (i + k)).toNat / 64 == 2) = true → i + k < l.length ∧ 128 ≤ l.getD (i + k) 0 := fun k hk => by
    rw [Bool.and_eq_true, decide_eq_true_eq, beq_iff_eq, hz] at hk
    rw [get_bang hl hk.1] at hk
    exact ⟨hk.1, by omega⟩
  simp only [Utf8.decode, g0]
  rw [if_neg (by omega)]
  split
  · rename_i hc
    rw [Bool.and_eq_true] at hc
    obtain ⟨c1, c2⟩ := cont 1 hc.2
    have hq := hl (i + 1)
    split
    · rw [get_bang hl c1]
      refine ⟨_, 2, rfl, by rename_i hx; rw [get_bang hl c1] at hx; exact hx, by omega, by omega, by omega, fun j hj => ?_⟩
      match j, hj with
      | 0, _ => exact h
      | 1, _ => exact c2
    · exact one _ er.1 er.2
  · split
    · rename_i hc
      rw [Bool.and_eq_true, Bool.and_eq_true] at hc
      obtain ⟨c1, c2⟩ := cont 1 hc.1.2
      obtain ⟨d1, d2⟩ := cont 2 hc.2
      split
      · rename_i hx
        rw [get_bang hl c1, get_bang hl d1] at hx ⊢
        rw [Bool.and_eq_true, decide_eq_true_eq] at hx
        refine ⟨_, 3, rfl, by omega, by omega, by omega, by omega, fun j hj => ?_⟩
        match j, hj with
        | 0, _ => exact h
        | 1, _ => exact c2
        | 2, _ => exact d2
      · exact one _ er.1 er.2
    · split
      · rename_i hc
        rw [Bool.and_eq_true, Bool.and_eq_true, Bool.and_eq_true] at hc
        obtain ⟨c1, c2⟩ := cont 1 hc.1.1.2
        obtain ⟨d1, d2⟩ := cont 2 hc.1.2
        obtain ⟨e1, e2⟩ := cont 3 hc.2
        split
        · rename_i hx
          rw [get_bang hl c1, get_bang hl d1, get_bang hl e1] at hx ⊢
          rw [Bool.and_eq_true, decide_eq_true_eq] at hx
          have hv := hx.2
          unfold Utf8.valid at hv
          simp only [Bool.or_eq_true, Bool.and_eq_true, decide_eq_true_eq] at hv
          refine ⟨_, 4, rfl, by omega, by omega, by omega, by omega, fun j hj => ?_⟩
          match j, hj with
          | 0, _ => exact h
          | 1, _ => exact c2
          | 2, _ => exact d2
          | 3, _ => exact e2
        · exact one _ er.1 er.2
      · exact one _ er.1 er.2
theorem rindex_low (c : Nat) (hc : c < 128) (w : World) :
    Calls Tryd.prog 71 #[.string ⟨#[32, 9]⟩, .int .i32 (c : Int)] w fun e w' => e = .returned (.int .i64 (idxL c [32, 9])) ∧ w = w' := by
  have H := Lib.hid (indexByte_any [32, 9] (by intro x hx; simp at hx; omega) c (by omega))
  rw [show str [32, 9] = (⟨#[32, 9]⟩ : ByteArray) from by kernel_rfl] at H
  have h1 : (c : Int) < 128 := by omega
  have hw1 : IntKind.u8.wrap (c : Int) = (c : Int) := IntWalk.u8_in _ (by omega)
  generalize (⟨#[32, 9]⟩ : ByteArray) = E at *
  generalize idxL c [32, 9] = R at *
  go_enter Tryd.func71, Tryd.ntmps71
  go_wp2_with fail
  refine (H.out _).mono ?_
  rintro e w1 ⟨rfl, rfl⟩
  go_wp2_with fail
  go_ret
  exact ⟨rfl, rfl⟩
theorem valid_rune (c : Nat) (w : World) :
    Calls Tryd.prog 83 #[.int .i32 (c : Int)] w fun e w' => e = .returned (.bool (Utf8.valid (c : Int) && decide (c ≤ 1114111))) ∧ w = w' := by
  by_cases h1 : c < 55296
  · have hv : (Utf8.valid (c : Int) && decide (c ≤ 1114111)) = true := by
      unfold Utf8.valid; simp; omega
    rw [hv]
    have i1 : (c : Int) < 55296 := by omega
    clear hv
    go_enter Tryd.func83, Tryd.ntmps83
    go_wp2
    go_ret
    exact ⟨rfl, rfl⟩
  · by_cases h2 : 57343 < c ∧ c ≤ 1114111
    · have hv : (Utf8.valid (c : Int) && decide (c ≤ 1114111)) = true := by
        unfold Utf8.valid; simp; omega
      rw [hv]
      have i1 : ¬ (c : Int) < 55296 := by omega
      have i2 : (57343 : Int) < (c : Int) := by omega
      have i3 : (c : Int) ≤ 1114111 := by omega
      clear hv
      go_enter Tryd.func83, Tryd.ntmps83
      go_wp2
      go_ret
      exact ⟨rfl, rfl⟩
    · have hv : (Utf8.valid (c : Int) && decide (c ≤ 1114111)) = false := by
        unfold Utf8.valid; simp; omega
      rw [hv]
      have i1 : ¬ (c : Int) < 55296 := by omega
      by_cases h3 : 57343 < c
      · have i2 : (57343 : Int) < (c : Int) := by omega
        have i3 : ¬ (c : Int) ≤ 1114111 := by omega
        clear hv
        go_enter Tryd.func83, Tryd.ntmps83
        go_wp2
        go_ret
        exact ⟨rfl, rfl⟩
      · have i2 : ¬ (57343 : Int) < (c : Int) := by omega
        clear hv
        go_enter Tryd.func83, Tryd.ntmps83
        go_wp2
        go_ret
        exact ⟨rfl, rfl⟩
def iterPos (w : World) (g : Nat) : Nat := match w.heap[g]? with | some (.stringIter _ p) => p | _ => 0
theorem iterPos_at {w : World} {g : Nat} {s : ByteArray} {p : Nat} (h : w.heap[g]? = some (.stringIter s p)) : iterPos w g = p := by
  unfold iterPos; rw [h]
def NoTo (w : World) (e : Ending) (w' : World) : Prop := e = .returned (.int .i64 (-1)) ∧ Below w.heap.size w w'
theorem rindex_high (c : Nat) (hc : 128 ≤ c) (hc2 : c ≤ 1114111) (w : World) :
    Calls Tryd.prog 71 #[.string ⟨#[32, 9]⟩, .int .i32 (c : Int)] w (NoTo w) := by
  have i0 : ¬ (c : Int) < 128 := by omega
  have HV := Lib.hid (valid_rune c)
  have HB := Lib.hid (Below.refl w.heap.size w)
  by_cases he : c = 65533
  · subst he
    have HI : Hid (∀ p, (w.iter ⟨#[32, 9]⟩ p).heap[w.heap.size]? = some (.stringIter ⟨#[32, 9]⟩ p)) := Lib.hid (fun p => World.iter_heap w _ p)
    clear HV
    go_enter Tryd.func71, Tryd.ntmps71
    go_wp2_with fail
    go_loopw [5, 6] (fun _ _ wr => ∃ p, p ≤ 2 ∧ wr = w.iter ⟨#[32, 9]⟩ p) (fun _ _ wr => 2 - iterPos wr w.heap.size)
    case atStart => exact ⟨0, by omega, rfl⟩
    case round =>
      obtain ⟨p, hp, rfl⟩ := hrel
      have hz : (⟨#[32, 9]⟩ : ByteArray).size = 2 := rfl
      have HP : Hid (∀ p, iterPos (w.iter ⟨#[32, 9]⟩ p) w.heap.size = p) := Lib.hid (fun p => iterPos_at (HI.out p))
      match p, hp with
      | 0, _ =>
        have hn : ∀ ty, (Instr.next (.pointer (some ⟨w.heap.size, 0, none⟩)) true ty).run Tryd.prog (w.iter ⟨#[32, 9]⟩ 0) = .ok (.tuple #[.bool true, .int .i64 0, .int .i32 32]) (w.iter ⟨#[32, 9]⟩ 1) := fun ty => run_next_ascii w ⟨#[32, 9]⟩ 0 ty (by decide) (by decide)
        go_wp2_with fail
        go_roundw
        case rel => exact ⟨1, by omega, rfl⟩
        case measure => rw [HP.out, HP.out]; omega
      | 1, _ =>
        have hn : ∀ ty, (Instr.next (.pointer (some ⟨w.heap.size, 0, none⟩)) true ty).run Tryd.prog (w.iter ⟨#[32, 9]⟩ 1) = .ok (.tuple #[.bool true, .int .i64 1, .int .i32 9]) (w.iter ⟨#[32, 9]⟩ 2) := fun ty => run_next_ascii w ⟨#[32, 9]⟩ 1 ty (by decide) (by decide)
        go_wp2_with fail
        go_roundw
        case rel => exact ⟨2, by omega, rfl⟩
        case measure => rw [HP.out, HP.out]; omega
      | 2, _ =>
        have hn : ∀ ty, (Instr.next (.pointer (some ⟨w.heap.size, 0, none⟩)) true ty).run Tryd.prog (w.iter ⟨#[32, 9]⟩ 2) = .ok (.tuple #[.bool false]) (w.iter ⟨#[32, 9]⟩ 2) := fun ty => run_next_end w ⟨#[32, 9]⟩ 2 ty (by decide)
        go_wp2_with fail
        go_ret
        exact ⟨rfl, (Below.refl _ _).alloc (Nat.le_refl _) _⟩
  · have ie : ((c : Int) == 65533) = false := by rw [beq_eq_false_iff_ne]; omega
    cases hv : (Utf8.valid (c : Int) && decide (c ≤ 1114111)) with
    | false =>
      rw [hv] at HV
      go_enter Tryd.func71, Tryd.ntmps71
      go_wp2_with fail
      refine (HV.out _).mono ?_
      rintro e w1 ⟨rfl, rfl⟩
      go_wp2_with fail
      go_ret
      exact ⟨rfl, HB.out⟩
    | true =>
      rw [hv] at HV
      rw [Bool.and_eq_true] at hv
      obtain ⟨f1, f2, f3⟩ := encode_facts (c : Int) hv.1 (by omega)
      obtain ⟨R, hR⟩ : ∃ R, Utf8.encode (c : Int) = R := ⟨_, rfl⟩
      have hcv : ∀ W, (convert 21 9 (.int .i32 (c : Int))).run Tryd.prog W = .ok (.string R) W := fun W => by rw [← hR]; exact run_convert_int_string W _ _ _ _ (by kernel_rfl) Tryd.underlying9
      rw [hR] at f1 f2 f3
      have hz : (⟨#[32, 9]⟩ : ByteArray).size = 2 := rfl
      have hcv1 := hcv w
      clear hcv hR hv he
      by_cases h2 : R.size = 2
      · obtain ⟨y, hy⟩ : ∃ y, (R[R.size - 1]'(by omega)).toNat = y := ⟨_, rfl⟩
        have hy1 := f3 (by omega)
        rw [hy] at hy1
        have hyb : y < 256 := by rw [← hy]; exact UInt8.toNat_lt _
        have hix : ∀ W, (Instr.index 9 (.string R) (.int .i64 1)).run Tryd.prog W = .ok (.int .u8 (y : Int)) W := fun W => by
          rw [run_index_string W 9 R .i64 1 Tryd.underlying9, dif_pos ⟨by omega, by omega⟩, ← hy]
          simp [h2]
        have hie : ∀ W, (Instr.index 9 (.string ⟨#[32, 9]⟩) (.int .i64 1)).run Tryd.prog W = .ok (.int .u8 9) W := fun W => by
          rw [run_index_string W 9 ⟨#[32, 9]⟩ .i64 1 Tryd.underlying9, dif_pos ⟨by omega, by rw [hz]; omega⟩]; rfl
        have hsl : ∀ W, (Instr.slice 9 (.string ⟨#[32, 9]⟩) (some (.int .i64 2)) none none).run Tryd.prog W = .ok (.string ⟨#[]⟩) W := fun W => by
          rw [run_slice_string_from_if W 9 ⟨#[32, 9]⟩ .i64 2 Tryd.underlying9, if_pos ⟨by omega, by rw [hz]; omega⟩]; rfl
        have HIB : Hid (∀ W, Calls Tryd.prog 82 #[.string ⟨#[]⟩, .int .u8 (y : Int)] W fun e w' => e = .returned (.int .i64 (-1)) ∧ w' = W) := Lib.hid (fun W => by
          have := indexByte_any [] (by simp) y hyb W
          rw [show str [] = (⟨#[]⟩ : ByteArray) from by kernel_rfl] at this
          exact this.mono (fun e w' h => ⟨h.1, h.2.symm⟩))
        have h1I : ((R.size : Int) - 1) = 1 := by omega
        have h2I : (R.size : Int) = 2 := by omega
        have h9 : ((9 : Int) != (y : Int)) = true := by rw [bne_iff_ne]; omega
        have hix1 := hix w
        have hie1 := hie w
        generalize (⟨#[32, 9]⟩ : ByteArray) = E at *
        generalize (⟨#[]⟩ : ByteArray) = E0 at *
        clear f3 hy h2 f1 f2 hy1 h1I
        go_enter Tryd.func71, Tryd.ntmps71
        go_wp2_with fail
        refine (HV.out _).mono ?_
        rintro e w1 ⟨rfl, rfl⟩
        go_wp2_with fail
        go_step3
        go_wp2_with fail
        go_loopw [9, 10] (fun a b wr => a = .int .i64 1 ∧ b = .int .i64 0 ∧ wr = w) (fun _ _ _ => 0)
        case atStart => exact ⟨rfl, rfl, rfl⟩
        case round =>
          obtain ⟨rfl, rfl, rfl⟩ := hrel
          go_wp2_with fail
          go_step3
          go_wp2_with fail
          go_big_quiet (fail)
          have HB2 := Lib.hid (below_drewN HB.out nq)
          generalize wr.drewN nq = w2 at *
          go_wp2_with fail
          go_big_quiet (with_reducible exact Calls.quiet_of_same (HIB.out _))
          go_wp2_with fail
          (try rw [Exit.noGoto_ret])
          go_ret
          exact ⟨rfl, below_drewN HB2.out _⟩
      · have hr : ¬ ((R.size : Int) - 1 < 2) := by omega
        generalize (⟨#[32, 9]⟩ : ByteArray) = E at *
        clear h2 f3
        go_enter Tryd.func71, Tryd.ntmps71
        go_wp2_with fail
        refine (HV.out _).mono ?_
        rintro e w1 ⟨rfl, rfl⟩
        go_wp2_with fail
        go_step3
        go_wp2_with fail
        go_loopw [9, 10] (fun a b wr => a = .int .i64 ((R.size : Int) - 1) ∧ b = .int .i64 0 ∧ wr = w) (fun _ _ _ => 0)
        case atStart => exact ⟨rfl, rfl, rfl⟩
        case round =>
          obtain ⟨rfl, rfl, rfl⟩ := hrel
          go_wp2_with fail
          (try rw [Exit.noGoto_ret])
          go_ret
          exact ⟨rfl, HB.out⟩
end Go.Proofs.YtcaogiaoabdkdaaDoor
