/-
  The example of chapter 6; CtrCounter's and CtrOnce's walks.
-/
import Derived.Test.YteonjinhelhkkaaCtrB
namespace Go.Proofs.Yteonjinhelhkkaa
open Go.RowKit Go
set_option linter.unusedVariables false
theorem nat_u32 {z : Int} (h : (Lit.int .u32 z).wf = true) : ∃ n : Nat, n < 4294967296 ∧ z = (n : Int) := by
  have := bounds_u32 h
  exact ⟨z.toNat, by omega, by omega⟩
theorem nat_u16 {z : Int} (h : (Lit.int .u16 z).wf = true) : ∃ n : Nat, n < 65536 ∧ z = (n : Int) := by
  have := bounds_u16 h
  exact ⟨z.toNat, by omega, by omega⟩
theorem awakeC_eq (w : World) : (Op.equalIn 10000 22 (.agg (rowV (bF (ctrL 1 2 3)) 16)) (.agg #[.int .u8 0, .int .u8 0, .int .u8 0, .int .u8 0, .int .u8 0, .int .u8 0, .int .u8 0, .int .u8 1, .int .u8 0, .int .u8 0, .int .u8 0, .int .u8 2, .int .u8 0, .int .u8 3, .int .u8 0, .int .u8 0])).run Try.prog w = .ok true w := by
  have e : (#[.int .u8 0, .int .u8 0, .int .u8 0, .int .u8 0, .int .u8 0, .int .u8 0, .int .u8 0, .int .u8 1, .int .u8 0, .int .u8 0, .int .u8 0, .int .u8 2, .int .u8 0, .int .u8 3, .int .u8 0, .int .u8 0] : Array Value) = rowV (bF (ctrL 1 2 3)) 16 := by kernel_rfl
  rw [e, equal16 _ _ (ctrL_len _ _ _) (ctrL_len _ _ _)]
  simp
theorem counter0 (w : World) : Calls Try.prog 23 #[.int .u64 1, .int .u32 2, .int .u16 3] w fun en w' => en = .returned (.agg (rowV (bF (ctrL 1 2 3)) 16)) ∧ Below w.heap.size w w' := counter_any 1 2 3 (by omega) (by omega) (by omega) w
set_option maxHeartbeats 1000000 in
theorem awakeC_any (w : World) : Calls Try.prog 25 #[] w fun e w' => e = .returned (.bool true) ∧ Below w.heap.size w w' := by
  have hq := awakeC_eq
  go_enter Try.func25, Try.ntmps25
  go_wp2_with fail
  refine (counter0 _).mono ?_
  rintro e w1 ⟨rfl, hb⟩
  generalize rowV (bF (ctrL 1 2 3)) 16 = x at *
  go_wp2
  go_ret
  exact ⟨rfl, hb⟩
set_option maxHeartbeats 1000000 in
theorem ctrCounter_any (e b l : Nat) (he : e < 2 ^ 64) (hb : b < 4294967296) (hl : l < 65536) (w : World) :
    Calls Try.prog 8 #[.int .u64 (e : Int), .int .u32 (b : Int), .int .u16 (l : Int)] w fun e w' => e = .returned (.bool true) ∧ Below w.heap.size w w' := by
  have hq := fun W => equal16 (ctrL e b l) (ctrL e b l) (ctrL_len _ _ _) (ctrL_len _ _ _) W
  rw [decide_eq_true rfl] at hq
  have H1 := Lib.hid (fun W => counter_any e b l he hb hl W)
  have H2 := Lib.hid (fun W => refCounter_any e b l he hb hl W)
  generalize rowV (bF (ctrL e b l)) 16 = x at *
  clear he
  go_enter Try.func8, Try.ntmps8
  go_wp2_with fail
  refine (H1.out _).mono ?_
  rintro e w1 ⟨rfl, hb1⟩
  go_wp2_with fail
  refine (H2.out _).mono ?_
  rintro e w2 ⟨rfl, hb2⟩
  have HB := Lib.hid (hb1.trans (hb2.mono hb1.size))
  clear hb1 hb2
  go_wp2_with fail
  refine (awakeC_any _).mono ?_
  rintro e w3 ⟨rfl, hb3⟩
  have HB3 := Lib.hid (HB.out.trans (hb3.mono HB.out.size))
  clear hb3
  go_wp2
  go_ret
  exact ⟨rfl, HB3.out⟩
theorem bytes_inj {x y : Nat} : ∀ n, (∀ k, k < n → x / 256 ^ k % 256 = y / 256 ^ k % 256) → x % 256 ^ n = y % 256 ^ n := by
  intro n
  induction n with
  | zero => intro _; rw [Nat.pow_zero, Nat.mod_one, Nat.mod_one]
  | succ n ih =>
    intro h
    rw [Nat.pow_succ, Nat.mod_mul, Nat.mod_mul, ih fun k hk => h k (by omega), h n (by omega)]
theorem ctrL_inj {e b l f c m : Nat} (he : e < 2 ^ 64) (hb : b < 4294967296) (hl : l < 65536) (hf : f < 2 ^ 64) (hc : c < 4294967296) (hm : m < 65536) (h : ctrL e b l = ctrL f c m) : e = f ∧ b = c ∧ l = m := by
  have hi : ∀ i, (ctrL e b l).getD i 0 = (ctrL f c m).getD i 0 := fun i => by rw [h]
  have h1 := bytes_inj (x := e) (y := f) 8 fun k hk => by
    have := hi (7 - k)
    rw [ctrL_at _ _ _ _ (by omega), ctrL_at _ _ _ _ (by omega), if_pos (show 7 - k < 8 by omega), if_pos (show 7 - k < 8 by omega), show 7 - (7 - k) = k by omega] at this
    exact this
  have h2 := bytes_inj (x := b) (y := c) 4 fun k hk => by
    have := hi (11 - k)
    rw [ctrL_at _ _ _ _ (by omega), ctrL_at _ _ _ _ (by omega)] at this
    simp only [if_neg (show ¬ 11 - k < 8 by omega), if_pos (show 11 - k < 12 by omega), show 11 - (11 - k) = k by omega] at this
    exact this
  have h3 := bytes_inj (x := l) (y := m) 2 fun k hk => by
    have := hi (13 - k)
    rw [ctrL_at _ _ _ _ (by omega), ctrL_at _ _ _ _ (by omega)] at this
    simp only [if_neg (show ¬ 13 - k < 8 by omega), if_neg (show ¬ 13 - k < 12 by omega), if_pos (show 13 - k < 14 by omega), show 13 - (13 - k) = k by omega] at this
    exact this
  rw [Nat.mod_eq_of_lt (by omega), Nat.mod_eq_of_lt (by omega)] at h1 h2 h3
  exact ⟨h1, h2, h3⟩
/-- the walk, whichever way the tests go -/
theorem neq_bool {a b : Nat} (h : ¬ a = b) : ((a : Int) == (b : Int)) = false ∧ ¬ (a : Int) = (b : Int) := ⟨by rw [beq_eq_false_iff_ne]; omega, by omega⟩
set_option maxHeartbeats 1000000 in
theorem ctrOnce_any (e b l f c m : Nat) (he : e < 2 ^ 64) (hb : b < 4294967296) (hl : l < 65536) (hf : f < 2 ^ 64) (hc : c < 4294967296) (hm : m < 65536) (w : World) :
    Calls Try.prog 9 #[.int .u64 (e : Int), .int .u32 (b : Int), .int .u16 (l : Int), .int .u64 (f : Int), .int .u32 (c : Int), .int .u16 (m : Int)] w fun e w' => e = .returned (.bool true) ∧ Below w.heap.size w w' := by
  have hq := fun W => equal16 (ctrL e b l) (ctrL f c m) (ctrL_len _ _ _) (ctrL_len _ _ _) W
  have hi := fun h => ctrL_inj he hb hl hf hc hm h
  have H1 := Lib.hid (fun W => counter_any e b l he hb hl W)
  have H2 := Lib.hid (fun W => counter_any f c m hf hc hm W)
  rcases (by omega : (e = f ∧ b = c ∧ l = m) ∨ ¬ e = f ∨ (e = f ∧ ¬ b = c) ∨ (e = f ∧ b = c ∧ ¬ l = m)) with ⟨rfl, rfl, rfl⟩ | h | ⟨rfl, h⟩ | ⟨rfl, rfl, h⟩
  · rw [decide_eq_true rfl] at hq
    generalize rowV (bF (ctrL e b l)) 16 = x at *
    clear he hf hb hl hc hm hi H2
    go_enter Try.func9, Try.ntmps9
    go_wp2_with fail
    refine (H1.out _).mono ?_
    rintro e w1 ⟨rfl, hb1⟩
    go_wp2_with fail
    refine (H1.out _).mono ?_
    rintro e w2 ⟨rfl, hb2⟩
    have HB := Lib.hid (hb1.trans (hb2.mono hb1.size))
    clear hb1 hb2
    go_wp2_with (go_at_call 25; refine (awakeC_any _).mono ?_; rintro e w3 ⟨rfl, hb3⟩; have HB3 := Lib.hid (HB.out.trans (hb3.mono HB.out.size)); clear hb3)
    go_ret
    exact ⟨rfl, HB3.out⟩
  all_goals
    rw [decide_eq_false (fun e => by have := hi e; omega)] at hq
    obtain ⟨h1, h2⟩ := neq_bool h
    generalize rowV (bF (ctrL _ _ _)) 16 = x at H1 hq
    generalize rowV (bF (ctrL _ _ _)) 16 = y at H2 hq
    clear he hf hb hl hc hm hi h
    go_enter Try.func9, Try.ntmps9
    go_wp2_with fail
    refine (H1.out _).mono ?_
    rintro e w1 ⟨rfl, hb1⟩
    go_wp2_with fail
    refine (H2.out _).mono ?_
    rintro e w2 ⟨rfl, hb2⟩
    have HB := Lib.hid (hb1.trans (hb2.mono hb1.size))
    clear hb1 hb2
    go_wp2_with (go_at_call 25; refine (awakeC_any _).mono ?_; rintro e w3 ⟨rfl, hb3⟩; have HB3 := Lib.hid (HB.out.trans (hb3.mono HB.out.size)); clear hb3)
    go_ret
    exact ⟨rfl, HB3.out⟩
end Go.Proofs.Yteonjinhelhkkaa
