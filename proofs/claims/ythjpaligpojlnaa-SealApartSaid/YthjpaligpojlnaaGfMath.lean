/-
  Plain facts about bytes as polynomials (natural numbers below 256): no program is named here.
-/
import Derived.KernelRfl
namespace Go.Proofs.Ythjpaligpojlnaa.Gf
set_option linter.unusedVariables false

/-- x times p, modulo x^8 + x^4 + x^3 + x + 1 -/
def xt (p : Nat) : Nat := if p &&& 128 = 0 then (2 * p) % 256 else ((2 * p) % 256) ^^^ 27
/-- what the loop of 'times' does in so many rounds -/
def tmR : Nat → Nat → Nat → Nat → Nat
  | 0, _, _, o => o
  | n + 1, p, q, o => tmR n (xt p) (q / 2) (if q % 2 = 1 then o ^^^ p else o)
def tm (p q : Nat) : Nat := tmR 8 p q 0

theorem xt_lt_chk : (List.range 256).all (fun p => decide (xt p < 256)) = true := by kernel_rfl
theorem xt_lt {p : Nat} (h : p < 256) : xt p < 256 := by
  have := List.all_eq_true.mp xt_lt_chk p (List.mem_range.mpr h)
  simpa using this
theorem xor_lt {a b : Nat} (ha : a < 256) (hb : b < 256) : a ^^^ b < 256 := Nat.xor_lt_two_pow (n := 8) ha hb

theorem tmR_lt (n : Nat) : ∀ p q o : Nat, p < 256 → o < 256 → tmR n p q o < 256 := by
  induction n with
  | zero => intro p q o _ ho; exact ho
  | succ n ih =>
    intro p q o hp ho
    unfold tmR
    refine ih _ _ _ (xt_lt hp) ?_
    split
    · exact xor_lt ho hp
    · exact ho
theorem tm_lt {p q : Nat} (hp : p < 256) : tm p q < 256 := tmR_lt _ _ _ _ hp (by omega)
theorem tmR_zero (n : Nat) : ∀ p o : Nat, tmR n p 0 o = o := by
  induction n with
  | zero => intro p o; rfl
  | succ n ih => intro p o; unfold tmR; simpa using ih _ _

/-- the long product, its first so many terms -/
def rp (a b : Nat) : Nat → Nat
  | 0 => 0
  | n + 1 => if b / 2 ^ n % 2 = 1 then rp a b n ^^^ (a * 2 ^ n) else rp a b n
theorem rp_lt {a b n : Nat} (ha : a < 256) (hn : n ≤ 8) : rp a b n < 65536 := by
  induction n with
  | zero => simp [rp]
  | succ n ih =>
    have h := ih (by omega)
    unfold rp
    split
    · refine Nat.xor_lt_two_pow (n := 16) h ?_
      have h2 : 2 ^ n ≤ 2 ^ 7 := Nat.pow_le_pow_right (by omega) (by omega)
      have h3 := Nat.mul_le_mul (Nat.le_of_lt ha) h2
      omega
    · exact h
/-- what is left of it: bits 14 down to 8, one after the other; so many from above are still to do -/
def red : Nat → Nat → Nat
  | 0, p => p
  | n + 1, p => red n (if p / 2 ^ (n + 8) % 2 = 1 then p ^^^ (283 * 2 ^ n) else p)
theorem red_step_lt {n p : Nat} (hn : n ≤ 7) (hp : p < 65536) : (if p / 2 ^ (n + 8) % 2 = 1 then p ^^^ (283 * 2 ^ n) else p) < 65536 := by
  split
  · refine Nat.xor_lt_two_pow (n := 16) hp ?_
    have h2 : 2 ^ n ≤ 2 ^ 7 := Nat.pow_le_pow_right (by omega) hn
    omega
  · exact hp
def rm (a b : Nat) : Nat := red 7 (rp a b 8) % 256
theorem rm_lt (a b : Nat) : rm a b < 256 := Nat.mod_lt _ (by omega)

/-! all of it is linear -/
theorem xor4 (a b c d : Nat) : (a ^^^ b) ^^^ (c ^^^ d) = (a ^^^ c) ^^^ (b ^^^ d) := by
  rw [Nat.xor_assoc, ← Nat.xor_assoc b c d, Nat.xor_comm b c, Nat.xor_assoc c b d, ← Nat.xor_assoc]
theorem xor_mod (a b n : Nat) : (a ^^^ b) % 2 ^ n = (a % 2 ^ n) ^^^ (b % 2 ^ n) := Nat.xor_mod_two_pow
theorem xor_mul (a b n : Nat) : (a ^^^ b) * 2 ^ n = (a * 2 ^ n) ^^^ (b * 2 ^ n) := by
  rw [← Nat.shiftLeft_eq, ← Nat.shiftLeft_eq, ← Nat.shiftLeft_eq, Nat.shiftLeft_xor_distrib]
theorem xor_div (a b n : Nat) : (a ^^^ b) / 2 ^ n = (a / 2 ^ n) ^^^ (b / 2 ^ n) := by
  rw [← Nat.shiftRight_eq_div_pow, ← Nat.shiftRight_eq_div_pow, ← Nat.shiftRight_eq_div_pow, Nat.shiftRight_xor_distrib]
/-- a number, if a bit of another one is set -/
def on (b c : Nat) : Nat := if b % 2 = 1 then c else 0
theorem on_xor (b b' c : Nat) : on (b ^^^ b') c = on b c ^^^ on b' c := by
  have h := xor_mod b b' 1
  simp only [Nat.pow_one] at h
  unfold on
  rw [h]
  rcases Nat.mod_two_eq_zero_or_one b with h1 | h1 <;> rcases Nat.mod_two_eq_zero_or_one b' with h2 | h2 <;> rw [h1, h2] <;> simp
theorem on_xor' (b c c' : Nat) : on b (c ^^^ c') = on b c ^^^ on b c' := by
  unfold on; split <;> rfl
theorem if_on (b o c : Nat) : (if b % 2 = 1 then o ^^^ c else o) = o ^^^ on b c := by
  unfold on; split
  · rfl
  · simp
theorem top_chk : (List.range 256).all (fun p => (p &&& 128) == p / 2 ^ 7 % 2 * 2 ^ 7) = true := by kernel_rfl
theorem xt_eq (p : Nat) (hp : p < 256) : xt p = (2 * p % 256) ^^^ on (p / 2 ^ 7) 27 := by
  have h : p &&& 128 = p / 2 ^ 7 % 2 * 2 ^ 7 := by
    have := List.all_eq_true.mp top_chk p (List.mem_range.mpr hp)
    exact eq_of_beq this
  unfold xt on
  rw [h]
  rcases Nat.mod_two_eq_zero_or_one (p / 2 ^ 7) with h1 | h1
  · rw [h1]; simp
  · rw [h1]; simp
theorem xt_xor {p p' : Nat} (hp : p < 256) (hp' : p' < 256) : xt (p ^^^ p') = xt p ^^^ xt p' := by
  rw [xt_eq _ (xor_lt hp hp'), xt_eq _ hp, xt_eq _ hp', xor_div, on_xor]
  have h : 2 * (p ^^^ p') % 256 = (2 * p % 256) ^^^ (2 * p' % 256) := by
    have h1 := xor_mul p p' 1
    have h2 := xor_mod (p * 2 ^ 1) (p' * 2 ^ 1) 8
    rw [← h1] at h2
    have e1 : 2 * (p ^^^ p') = (p ^^^ p') * 2 ^ 1 := by omega
    have e2 : 2 * p = p * 2 ^ 1 := by omega
    have e3 : 2 * p' = p' * 2 ^ 1 := by omega
    rw [e1, e2, e3]
    exact h2
  rw [h, xor4]
theorem tmR_xor (n : Nat) : ∀ p p' q o o' : Nat, p < 256 → p' < 256 → tmR n (p ^^^ p') q (o ^^^ o') = tmR n p q o ^^^ tmR n p' q o' := by
  induction n with
  | zero => intro p p' q o o' _ _; rfl
  | succ n ih =>
    intro p p' q o o' hp hp'
    unfold tmR
    rw [xt_xor hp hp', if_on, if_on, if_on, on_xor', xor4, ih _ _ _ _ _ (xt_lt hp) (xt_lt hp')]
theorem tmR_xor' (n : Nat) : ∀ p q q' o o' : Nat, tmR n p (q ^^^ q') (o ^^^ o') = tmR n p q o ^^^ tmR n p q' o' := by
  induction n with
  | zero => intro p q q' o o'; rfl
  | succ n ih =>
    intro p q q' o o'
    unfold tmR
    have h := xor_div q q' 1
    simp only [Nat.pow_one] at h
    rw [if_on, if_on, if_on, on_xor, xor4, h, ih]
theorem tm_xor {p p' : Nat} (q : Nat) (hp : p < 256) (hp' : p' < 256) : tm (p ^^^ p') q = tm p q ^^^ tm p' q := tmR_xor 8 p p' q 0 0 hp hp'
theorem tm_xor' (p q q' : Nat) : tm p (q ^^^ q') = tm p q ^^^ tm p q' := tmR_xor' 8 p q q' 0 0
theorem rp_xor (a a' b n : Nat) : rp (a ^^^ a') b n = rp a b n ^^^ rp a' b n := by
  induction n with
  | zero => simp [rp]
  | succ n ih => unfold rp; rw [if_on, if_on, if_on, ih, xor_mul, on_xor', xor4]
theorem rp_xor' (a b b' n : Nat) : rp a (b ^^^ b') n = rp a b n ^^^ rp a b' n := by
  induction n with
  | zero => simp [rp]
  | succ n ih => unfold rp; rw [if_on, if_on, if_on, ih, xor_div, on_xor, xor4]
theorem red_xor (n : Nat) : ∀ p p' : Nat, red n (p ^^^ p') = red n p ^^^ red n p' := by
  induction n with
  | zero => intro p p'; rfl
  | succ n ih => intro p p'; unfold red; rw [if_on, if_on, if_on, xor_div, on_xor, xor4, ih]
theorem rm_xor (a a' b : Nat) : rm (a ^^^ a') b = rm a b ^^^ rm a' b := by
  unfold rm; rw [rp_xor, red_xor]; exact xor_mod _ _ 8
theorem rm_xor' (a b b' : Nat) : rm a (b ^^^ b') = rm a b ^^^ rm a b' := by
  unfold rm; rw [rp_xor', red_xor]; exact xor_mod _ _ 8

def split_chk : Bool := (List.range 8).all fun n => (List.range (2 ^ n)).all fun y => (y ^^^ 2 ^ n) == y + 2 ^ n
theorem split_chk_true : split_chk = true := by kernel_rfl
theorem split_at {n y : Nat} (hn : n < 8) (hy : y < 2 ^ n) : y ^^^ 2 ^ n = y + 2 ^ n := by
  have h := List.all_eq_true.mp split_chk_true n (List.mem_range.mpr hn)
  have h2 := List.all_eq_true.mp h y (List.mem_range.mpr hy)
  simpa using h2
/-- what is linear is known from eight bytes -/
theorem lin_ext (f g : Nat → Nat) (hf : ∀ x y, x < 256 → y < 256 → f (x ^^^ y) = f x ^^^ f y) (hg : ∀ x y, x < 256 → y < 256 → g (x ^^^ y) = g x ^^^ g y)
    (h : ∀ i, i < 8 → f (2 ^ i) = g (2 ^ i)) : ∀ x, x < 256 → f x = g x := by
  have key : ∀ n, n ≤ 8 → ∀ x, x < 2 ^ n → f x = g x := by
    intro n
    induction n with
    | zero =>
      intro _ x hx
      have : x = 0 := by simpa using hx
      subst this
      have e1 := hf 0 0 (by omega) (by omega)
      have e2 := hg 0 0 (by omega) (by omega)
      simp at e1 e2
      rw [e1, e2]
    | succ n ih =>
      intro hn x hx
      rcases Nat.lt_or_ge x (2 ^ n) with hlt | hge
      · exact ih (by omega) x hlt
      · rw [Nat.pow_succ] at hx
        have hm : 2 ^ n < 256 := show 2 ^ n < 2 ^ 8 from Nat.pow_lt_pow_right (by omega) (by omega)
        have hy : x - 2 ^ n < 2 ^ n := by omega
        have e : x = (x - 2 ^ n) ^^^ 2 ^ n := by rw [split_at (by omega) hy]; omega
        rw [e, hf _ _ (by omega) hm, hg _ _ (by omega) hm, ih (by omega) _ hy, h n (by omega)]
  exact fun x hx => key 8 (Nat.le_refl _) x hx
def base_chk : Bool := (List.range 8).all fun i => (List.range 8).all fun j => tm (2 ^ i) (2 ^ j) == rm (2 ^ i) (2 ^ j) && tm (2 ^ i) (2 ^ j) == tm (2 ^ j) (2 ^ i)
theorem base_chk_true : base_chk = true := by kernel_rfl
theorem base_at {i j : Nat} (hi : i < 8) (hj : j < 8) : tm (2 ^ i) (2 ^ j) = rm (2 ^ i) (2 ^ j) ∧ tm (2 ^ i) (2 ^ j) = tm (2 ^ j) (2 ^ i) := by
  have h := List.all_eq_true.mp base_chk_true i (List.mem_range.mpr hi)
  have h2 := List.all_eq_true.mp h j (List.mem_range.mpr hj)
  simpa using h2
theorem pow_lt8 {i : Nat} (hi : i < 8) : 2 ^ i < 256 := show 2 ^ i < 2 ^ 8 from Nat.pow_lt_pow_right (by omega) hi
theorem tm_rm {a b : Nat} (ha : a < 256) (hb : b < 256) : tm a b = rm a b :=
  lin_ext (fun b => tm a b) (fun b => rm a b) (fun x y _ _ => tm_xor' a x y) (fun x y _ _ => rm_xor' a x y)
    (fun j hj => lin_ext (fun a => tm a (2 ^ j)) (fun a => rm a (2 ^ j)) (fun x y hx hy => tm_xor _ hx hy) (fun x y _ _ => rm_xor x y _) (fun i hi => (base_at hi hj).1) a ha) b hb
theorem tm_comm {a b : Nat} (ha : a < 256) (hb : b < 256) : tm a b = tm b a :=
  lin_ext (fun b => tm a b) (fun b => tm b a) (fun x y _ _ => tm_xor' a x y) (fun x y hx hy => tm_xor _ hx hy)
    (fun j hj => lin_ext (fun a => tm a (2 ^ j)) (fun a => tm (2 ^ j) a) (fun x y hx hy => tm_xor _ hx hy) (fun x y _ _ => tm_xor' _ x y) (fun i hi => (base_at hi hj).2) a ha) b hb
theorem tm_one {a : Nat} (ha : a < 256) : tm a 1 = a := by
  simp [tm, tmR]

/-! products in any order -/
theorem tmR_out (n p q o : Nat) : tmR n p q o = o ^^^ tmR n p q 0 := by
  have h := tmR_xor' n p 0 q o 0
  rw [Nat.zero_xor, Nat.xor_zero, tmR_zero] at h
  exact h
theorem xt_base : (List.range 8).all (fun i => (List.range 8).all fun j => tm (xt (2 ^ i)) (2 ^ j) == xt (tm (2 ^ i) (2 ^ j))) = true := by kernel_rfl
theorem tm_xt {a b : Nat} (ha : a < 256) (hb : b < 256) : tm (xt a) b = xt (tm a b) :=
  lin_ext (fun b => tm (xt a) b) (fun b => xt (tm a b)) (fun x y _ _ => tm_xor' _ x y) (fun x y _ _ => by simp only [tm_xor']; exact xt_xor (tm_lt ha) (tm_lt ha))
    (fun j hj => lin_ext (fun a => tm (xt a) (2 ^ j)) (fun a => xt (tm a (2 ^ j)))
      (fun x y hx hy => by simp only [xt_xor hx hy]; exact tm_xor _ (xt_lt hx) (xt_lt hy))
      (fun x y hx hy => by simp only [tm_xor _ hx hy]; exact xt_xor (tm_lt hx) (tm_lt hy))
      (fun i hi => by
        have h := List.all_eq_true.mp xt_base i (List.mem_range.mpr hi)
        have h2 := List.all_eq_true.mp h j (List.mem_range.mpr hj)
        simpa using h2) a ha) b hb
def asc_chk : Bool := (List.range 8).all fun i => (List.range 8).all fun j => (List.range 8).all fun k => tm (2 ^ i) (tm (2 ^ j) (2 ^ k)) == tm (tm (2 ^ i) (2 ^ j)) (2 ^ k)
theorem asc_chk_true : asc_chk = true := by kernel_rfl
theorem asc_at {i j k : Nat} (hi : i < 8) (hj : j < 8) (hk : k < 8) : tm (2 ^ i) (tm (2 ^ j) (2 ^ k)) = tm (tm (2 ^ i) (2 ^ j)) (2 ^ k) := by
  have h := List.all_eq_true.mp asc_chk_true i (List.mem_range.mpr hi)
  have h2 := List.all_eq_true.mp h j (List.mem_range.mpr hj)
  have h3 := List.all_eq_true.mp h2 k (List.mem_range.mpr hk)
  simpa using h3
theorem tm_assoc {a b c : Nat} (ha : a < 256) (hb : b < 256) (hc : c < 256) : tm a (tm b c) = tm (tm a b) c :=
  lin_ext (fun c => tm a (tm b c)) (fun c => tm (tm a b) c) (fun x y _ _ => by simp only [tm_xor']) (fun x y _ _ => tm_xor' _ x y)
    (fun k hk => lin_ext (fun b => tm a (tm b (2 ^ k))) (fun b => tm (tm a b) (2 ^ k))
      (fun x y hx hy => by simp only [tm_xor _ hx hy, tm_xor'])
      (fun x y hx hy => by simp only [tm_xor']; exact tm_xor _ (tm_lt ha) (tm_lt ha))
      (fun j hj => lin_ext (fun a => tm a (tm (2 ^ j) (2 ^ k))) (fun a => tm (tm a (2 ^ j)) (2 ^ k))
        (fun x y hx hy => tm_xor _ hx hy)
        (fun x y hx hy => by simp only [tm_xor _ hx hy]; exact tm_xor _ (tm_lt hx) (tm_lt hy))
        (fun i hi => asc_at hi hj hk) a ha) b hb) c hc
/-! powers and inverses -/
def pw (a : Nat) : Nat → Nat
  | 0 => 1
  | n + 1 => tm (pw a n) a
theorem pw_lt {a : Nat} (ha : a < 256) : ∀ n, pw a n < 256 := by
  intro n
  induction n with
  | zero => simp [pw]
  | succ n ih => exact tm_lt ih
theorem pw_sq {a : Nat} (ha : a < 256) (m : Nat) : pw (tm a a) m = pw a (2 * m) := by
  induction m with
  | zero => rfl
  | succ m ih =>
    have e : 2 * (m + 1) = 2 * m + 1 + 1 := by omega
    rw [e, pw, pw, pw, ih, tm_assoc (pw_lt ha _) ha ha]
theorem pw_step_even {o s m : Nat} (hs : s < 256) : tm o (pw s (2 * m)) = tm o (pw (tm s s) m) := by rw [pw_sq hs]
theorem pw_step_odd {o s m : Nat} (ho : o < 256) (hs : s < 256) : tm o (pw s (2 * m + 1)) = tm (tm o s) (pw (tm s s) m) := by
  rw [pw, pw_sq hs, tm_comm (pw_lt hs _) hs, tm_assoc ho hs (pw_lt hs _)]
def inv (a : Nat) : Nat := pw a 254
def fast (a : Nat) : Nat :=
  let b := tm a a; let c := tm b b; let d := tm c c; let e := tm d d; let f := tm e e; let g := tm f f; let h := tm g g
  tm (tm (tm (tm (tm (tm h g) f) e) d) c) b
theorem one_tm {a : Nat} (ha : a < 256) : tm 1 a = a := by rw [tm_comm (by omega) ha, tm_one ha]
theorem pw_odd {a : Nat} (ha : a < 256) (m : Nat) : pw a (2 * m + 1) = tm (pw (tm a a) m) a := by rw [pw, pw_sq ha]
theorem inv_fast {a : Nat} (ha : a < 256) : inv a = fast a := by
  unfold inv fast
  have h1 := @tm_lt a a ha
  generalize hb : tm a a = b at h1
  have h2 := @tm_lt b b h1
  generalize hc : tm b b = c at h2
  have h3 := @tm_lt c c h2
  generalize hd : tm c c = d at h3
  have h4 := @tm_lt d d h3
  generalize he : tm d d = e at h4
  have h5 := @tm_lt e e h4
  generalize hf : tm e e = f at h5
  have h6 := @tm_lt f f h5
  generalize hg : tm f f = g at h6
  have h7 := @tm_lt g g h6
  have e1 := pw_sq ha 127
  have e2 := pw_odd h1 63
  have e3 := pw_odd h2 31
  have e4 := pw_odd h3 15
  have e5 := pw_odd h4 7
  have e6 := pw_odd h5 3
  have e7 := pw_odd h6 1
  have e8 := pw_odd h7 0
  rw [hb] at e1
  rw [hc] at e2
  rw [hd] at e3
  rw [he] at e4
  rw [hf] at e5
  rw [hg] at e6
  rw [← e1, e2, e3, e4, e5, e6, e7, e8, pw, one_tm h7]
  subst hb hc hd he hf hg
  rfl
def inv_chk : Bool := (List.range 256).all fun a => tm a (fast a) == (if a = 0 then 0 else 1)
theorem inv_chk_true : inv_chk = true := by kernel_rfl
theorem tm_inv {a : Nat} (ha : a < 256) : tm a (inv a) = if a = 0 then 0 else 1 := by
  rw [inv_fast ha]
  have h := List.all_eq_true.mp inv_chk_true a (List.mem_range.mpr ha)
  exact eq_of_beq h
theorem inv_lt {a : Nat} (ha : a < 256) : inv a < 256 := pw_lt ha _
theorem tm_zero {b : Nat} (hb : b < 256) : tm 0 b = 0 := by rw [tm_comm (by omega) hb]; simp [tm, tmR]
theorem inv_zero : inv 0 = 0 := by rw [inv_fast (by omega)]; rfl
/-- there is no other inverse -/
theorem inv_only {a k : Nat} (ha : a < 256) (hk : k < 256) (h : tm a k = 1) : k = inv a := by
  have h0 : ¬ a = 0 := by rintro rfl; rw [tm_zero hk] at h; omega
  have h1 := tm_inv ha
  rw [if_neg h0] at h1
  have h2 : tm (inv a) (tm a k) = tm (tm (inv a) a) k := tm_assoc (inv_lt ha) ha hk
  rw [h, tm_comm (inv_lt ha) ha, h1, one_tm hk, tm_one (inv_lt ha)] at h2
  exact h2.symm

/-! the box -/
def rot (i k : Nat) : Nat := (i * 2 ^ k % 256) ||| (i / 2 ^ (8 - k))
theorem rot_lt {i k : Nat} (hi : i < 256) : rot i k < 256 :=
  Nat.or_lt_two_pow (n := 8) (Nat.mod_lt _ (by omega)) (Nat.lt_of_le_of_lt (Nat.div_le_self _ _) hi)
def spr (i : Nat) : Nat → Nat
  | 0 => 0
  | k + 1 => spr i k ^^^ rot i k
theorem spr_lt {i : Nat} (hi : i < 256) : ∀ k, spr i k < 256 := by
  intro k
  induction k with
  | zero => simp [spr]
  | succ k ih => exact xor_lt ih (rot_lt hi)
def spread (i : Nat) : Nat := spr i 5 ^^^ 99
def bit (c k : Nat) : Nat := c / 2 ^ (k % 8) % 2
def bits8 (i : Nat) : Nat → Nat
  | 0 => 0
  | n + 1 => 2 * bits8 i n + (bit i (7 - n) + bit i (7 - n + 4) + bit i (7 - n + 5) + bit i (7 - n + 6) + bit i (7 - n + 7) + bit 99 (7 - n)) % 2
def spread_chk : Bool := (List.range 256).all fun i => spread i == bits8 i 8 && decide (spread i < 256)
theorem spread_chk_true : spread_chk = true := by kernel_rfl
theorem spread_at {i : Nat} (hi : i < 256) : spread i = bits8 i 8 ∧ spread i < 256 := by
  have h := List.all_eq_true.mp spread_chk_true i (List.mem_range.mpr hi)
  simpa using h
def sub (c : Nat) : Nat := spread (inv c)
theorem sub_lt {c : Nat} (hc : c < 256) : sub c < 256 := (spread_at (inv_lt hc)).2

theorem inv_inv {a : Nat} (ha : a < 256) : inv (inv a) = a := by
  by_cases h0 : a = 0
  · subst h0; rw [inv_zero, inv_zero]
  · have h := tm_inv ha
    rw [if_neg h0, tm_comm ha (inv_lt ha)] at h
    exact (inv_only (inv_lt ha) ha h).symm
/-- the spread bits put together again -/
def unspread (b : Nat) : Nat := rot b 1 ^^^ rot b 3 ^^^ rot b 6 ^^^ 5
def unspread_chk : Bool := (List.range 256).all fun i => unspread (spread i) == i && spread (unspread i) == i && decide (unspread i < 256)
theorem unspread_chk_true : unspread_chk = true := by kernel_rfl
theorem unspread_at {i : Nat} (hi : i < 256) : unspread (spread i) = i ∧ spread (unspread i) = i ∧ unspread i < 256 := by
  have h := List.all_eq_true.mp unspread_chk_true i (List.mem_range.mpr hi)
  simp only [Bool.and_eq_true, beq_iff_eq, decide_eq_true_eq] at h
  exact ⟨h.1.1, h.1.2, h.2⟩
def bk (d : Nat) : Nat := inv (unspread d)
theorem bk_lt {d : Nat} (hd : d < 256) : bk d < 256 := inv_lt (unspread_at hd).2.2
theorem bk_sub {c : Nat} (hc : c < 256) : bk (sub c) = c := by
  unfold bk sub
  rw [(unspread_at (inv_lt hc)).1, inv_inv hc]
theorem sub_bk {d : Nat} (hd : d < 256) : sub (bk d) = d := by
  unfold bk sub
  rw [inv_inv (unspread_at hd).2.2, (unspread_at hd).2.1]
theorem sub_inj {a b : Nat} (ha : a < 256) (hb : b < 256) (h : sub a = sub b) : a = b := by rw [← bk_sub ha, h, bk_sub hb]
theorem awake_mul : tm 87 131 = 193 := by kernel_rfl
theorem awake_sub : sub 0 = 99 := by unfold sub; rw [inv_zero]; kernel_rfl
theorem awake_sub' : sub 83 = 237 := by unfold sub; rw [inv_fast (by omega)]; kernel_rfl
end Go.Proofs.Ythjpaligpojlnaa.Gf
