/-
  SHA-256 as plain numbers: no program is named here.
-/
import Derived.KernelRfl
import Derived.Test.YtoclelpmampikaaGreatWordMath
namespace Go.Proofs.YtoclelpmampikaaGreat
set_option linter.unusedVariables false
namespace Sha
def rotr (x k : Nat) : Nat := (x / 2 ^ k) ||| (x * 2 ^ (32 - k) % 4294967296)
def bS0 (x : Nat) : Nat := (rotr x 2 ^^^ rotr x 13) ^^^ rotr x 22
def bS1 (x : Nat) : Nat := (rotr x 6 ^^^ rotr x 11) ^^^ rotr x 25
def s0 (x : Nat) : Nat := (rotr x 7 ^^^ rotr x 18) ^^^ (x / 8)
def s1 (x : Nat) : Nat := (rotr x 17 ^^^ rotr x 19) ^^^ (x / 1024)
def ch (e f g : Nat) : Nat := (e &&& f) ^^^ ((4294967295 ^^^ e) &&& g)
def maj (a b c : Nat) : Nat := ((a &&& b) ^^^ (a &&& c)) ^^^ (b &&& c)
theorem xor_lt {a b : Nat} (ha : a < 4294967296) (hb : b < 4294967296) : a ^^^ b < 4294967296 := Nat.xor_lt_two_pow (n := 32) ha hb
theorem and_lt {a : Nat} (b : Nat) (ha : a < 4294967296) : a &&& b < 4294967296 := Nat.lt_of_le_of_lt Nat.and_le_left ha
theorem or_lt {a b : Nat} (ha : a < 4294967296) (hb : b < 4294967296) : a ||| b < 4294967296 := Nat.or_lt_two_pow (n := 32) ha hb
theorem rotr_lt {x : Nat} (k : Nat) (hx : x < 4294967296) : rotr x k < 4294967296 :=
  or_lt (Nat.lt_of_le_of_lt (Nat.div_le_self _ _) hx) (Nat.mod_lt _ (by omega))
theorem bS0_lt {x : Nat} (hx : x < 4294967296) : bS0 x < 4294967296 := xor_lt (xor_lt (rotr_lt _ hx) (rotr_lt _ hx)) (rotr_lt _ hx)
theorem bS1_lt {x : Nat} (hx : x < 4294967296) : bS1 x < 4294967296 := xor_lt (xor_lt (rotr_lt _ hx) (rotr_lt _ hx)) (rotr_lt _ hx)
theorem s0_lt {x : Nat} (hx : x < 4294967296) : s0 x < 4294967296 := xor_lt (xor_lt (rotr_lt _ hx) (rotr_lt _ hx)) (Nat.lt_of_le_of_lt (Nat.div_le_self _ _) hx)
theorem s1_lt {x : Nat} (hx : x < 4294967296) : s1 x < 4294967296 := xor_lt (xor_lt (rotr_lt _ hx) (rotr_lt _ hx)) (Nat.lt_of_le_of_lt (Nat.div_le_self _ _) hx)
theorem ch_lt {e f g : Nat} (he : e < 4294967296) (hg : g < 4294967296) : ch e f g < 4294967296 := xor_lt (and_lt _ he) (by rw [Nat.and_comm]; exact and_lt _ hg)
theorem maj_lt {a b c : Nat} (ha : a < 4294967296) (hb : b < 4294967296) : maj a b c < 4294967296 := xor_lt (xor_lt (and_lt _ ha) (and_lt _ ha)) (and_lt _ hb)
theorem ch_alt (e f : Nat) {g : Nat} (hg : g < 4294967296) : ch e f g = g ^^^ (e &&& (f ^^^ g)) := by
  apply Nat.eq_of_testBit_eq
  intro i
  unfold ch
  rw [show (4294967295 : Nat) = 2 ^ 32 - 1 from rfl]
  simp only [Nat.testBit_xor, Nat.testBit_and, Nat.testBit_two_pow_sub_one]
  by_cases h : i < 32
  · simp only [h, decide_true]
    cases e.testBit i <;> cases f.testBit i <;> cases g.testBit i <;> rfl
  · have : g.testBit i = false := Nat.testBit_lt_two_pow (Nat.lt_of_lt_of_le hg (by rw [show (4294967296 : Nat) = 2 ^ 32 from rfl]; exact Nat.pow_le_pow_right (by omega) (by omega)))
    rw [this]
    simp only [h, decide_false]
    cases e.testBit i <;> cases f.testBit i <;> rfl
theorem maj_alt (a b c : Nat) : maj a b c = (a &&& b) ||| (c &&& (a ||| b)) := by
  apply Nat.eq_of_testBit_eq
  intro i
  unfold maj
  simp only [Nat.testBit_xor, Nat.testBit_and, Nat.testBit_or]
  cases a.testBit i <;> cases b.testBit i <;> cases c.testBit i <;> rfl

def K : List Nat := [
    0x428a2f98, 0x71374491, 0xb5c0fbcf, 0xe9b5dba5, 0x3956c25b, 0x59f111f1, 0x923f82a4, 0xab1c5ed5,
    0xd807aa98, 0x12835b01, 0x243185be, 0x550c7dc3, 0x72be5d74, 0x80deb1fe, 0x9bdc06a7, 0xc19bf174,
    0xe49b69c1, 0xefbe4786, 0x0fc19dc6, 0x240ca1cc, 0x2de92c6f, 0x4a7484aa, 0x5cb0a9dc, 0x76f988da,
    0x983e5152, 0xa831c66d, 0xb00327c8, 0xbf597fc7, 0xc6e00bf3, 0xd5a79147, 0x06ca6351, 0x14292967,
    0x27b70a85, 0x2e1b2138, 0x4d2c6dfc, 0x53380d13, 0x650a7354, 0x766a0abb, 0x81c2c92e, 0x92722c85,
    0xa2bfe8a1, 0xa81a664b, 0xc24b8b70, 0xc76c51a3, 0xd192e819, 0xd6990624, 0xf40e3585, 0x106aa070,
    0x19a4c116, 0x1e376c08, 0x2748774c, 0x34b0bcb5, 0x391c0cb3, 0x4ed8aa4a, 0x5b9cca4f, 0x682e6ff3,
    0x748f82ee, 0x78a5636f, 0x84c87814, 0x8cc70208, 0x90befffa, 0xa4506ceb, 0xbef9a3f7, 0xc67178f2]
def H0 : List Nat := [0x6a09e667, 0xbb67ae85, 0x3c6ef372, 0xa54ff53a, 0x510e527f, 0x9b05688c, 0x1f83d9ab, 0x5be0cd19]
theorem all_lt {l : List Nat} (h : (l.all fun x => decide (x < 4294967296)) = true) (i : Nat) : l.getD i 0 < 4294967296 := by
  by_cases hi : i < l.length
  · rw [List.getD_eq_getElem?_getD, List.getElem?_eq_getElem hi]
    have := List.all_eq_true.mp h l[i] (List.getElem_mem hi)
    simpa using this
  · rw [List.getD_eq_getElem?_getD, List.getElem?_eq_none (by omega)]
    simp
theorem K_lt (i : Nat) : K.getD i 0 < 4294967296 := all_lt (by kernel_rfl) i
theorem H0_lt (i : Nat) : H0.getD i 0 < 4294967296 := all_lt (by kernel_rfl) i
structure St where
  (a b c d e f g h : Nat)
def St.lst (s : St) : List Nat := [s.a, s.b, s.c, s.d, s.e, s.f, s.g, s.h]
def St.at_ (s : St) (i : Nat) : Nat := s.lst.getD i 0
structure St.Ok (s : St) : Prop where
  (a : s.a < 4294967296) (b : s.b < 4294967296) (c : s.c < 4294967296) (d : s.d < 4294967296) (e : s.e < 4294967296) (f : s.f < 4294967296) (g : s.g < 4294967296) (h : s.h < 4294967296)
def stOf (l : List Nat) : St := ⟨l.getD 0 0, l.getD 1 0, l.getD 2 0, l.getD 3 0, l.getD 4 0, l.getD 5 0, l.getD 6 0, l.getD 7 0⟩
theorem stOf_ok {l : List Nat} (h : ∀ i, l.getD i 0 < 4294967296) : (stOf l).Ok := ⟨h 0, h 1, h 2, h 3, h 4, h 5, h 6, h 7⟩
/-- word number t of a chunk l, those ahead of it being ws -/
def wnext (l : List Nat) (ws : List Nat) (t : Nat) : Nat :=
  if t < 16 then l.getD (4 * t) 0 * 16777216 + l.getD (4 * t + 1) 0 * 65536 + l.getD (4 * t + 2) 0 * 256 + l.getD (4 * t + 3) 0
  else (s1 (ws.getD (t - 2) 0) + ws.getD (t - 7) 0 + s0 (ws.getD (t - 15) 0) + ws.getD (t - 16) 0) % 4294967296
def wl (l : List Nat) : Nat → List Nat
  | 0 => []
  | t + 1 => wl l t ++ [wnext l (wl l t) t]
def rnd (s : St) (k w : Nat) : St :=
  let u := (s.h + bS1 s.e + ch s.e s.f s.g + k + w) % 4294967296
  ⟨(u + bS0 s.a + maj s.a s.b s.c) % 4294967296, s.a, s.b, s.c, (s.d + u) % 4294967296, s.e, s.f, s.g⟩
def rnds (ws : List Nat) (s : St) : Nat → St
  | 0 => s
  | t + 1 => rnd (rnds ws s t) (K.getD t 0) (ws.getD t 0)
def plus (s t : St) : St := ⟨(s.a + t.a) % 4294967296, (s.b + t.b) % 4294967296, (s.c + t.c) % 4294967296, (s.d + t.d) % 4294967296, (s.e + t.e) % 4294967296, (s.f + t.f) % 4294967296, (s.g + t.g) % 4294967296, (s.h + t.h) % 4294967296⟩
/-- the state behind a chunk -/
def block (s : St) (l : List Nat) : St := plus s (rnds (wl l 64) s 64)
theorem wl_len (l : List Nat) (t : Nat) : (wl l t).length = t := by
  induction t with
  | zero => rfl
  | succ t ih => simp [wl, ih]
theorem wnext_lt {l : List Nat} (h : ∀ i, l.getD i 0 < 256) (ws : List Nat) (t : Nat) : wnext l ws t < 4294967296 := by
  unfold wnext
  split
  · have := h (4 * t); have := h (4 * t + 1); have := h (4 * t + 2); have := h (4 * t + 3); omega
  · exact Nat.mod_lt _ (by omega)
theorem wl_old (l : List Nat) {t i : Nat} (h : i < t) : ∀ n, t ≤ n → (wl l n).getD i 0 = (wl l t).getD i 0 := by
  intro n
  induction n with
  | zero => intro h'; omega
  | succ n ih =>
    intro h'
    by_cases e : t = n + 1
    · rw [e]
    · rw [← ih (by omega), wl]
      have := wl_len l n
      simp [List.getD, List.getElem?_append_left (show i < (wl l n).length by omega)]
theorem wl_new (l : List Nat) (t : Nat) : (wl l (t + 1)).getD t 0 = wnext l (wl l t) t := by
  have := wl_len l t
  rw [wl]
  simp [List.getD, this]
theorem wl_lt {l : List Nat} (h : ∀ i, l.getD i 0 < 256) (t i : Nat) : (wl l t).getD i 0 < 4294967296 := by
  by_cases hi : i < t
  · rw [wl_old l (Nat.lt_succ_self i) t (by omega), wl_new]; exact wnext_lt h _ _
  · have := wl_len l t
    rw [List.getD_eq_getElem?_getD, List.getElem?_eq_none (by omega)]; simp
theorem wl_at (l : List Nat) {t : Nat} (h : t < 64) : (wl l 64).getD t 0 = wnext l (wl l t) t := by
  rw [wl_old l (Nat.lt_succ_self t) 64 (by omega), wl_new]
/-- word number t, from the words of all 64 -/
theorem w_first (l : List Nat) {t : Nat} (h : t < 16) : (wl l 64).getD t 0 = l.getD (4 * t) 0 * 16777216 + l.getD (4 * t + 1) 0 * 65536 + l.getD (4 * t + 2) 0 * 256 + l.getD (4 * t + 3) 0 := by
  rw [wl_at l (by omega), wnext, if_pos h]
theorem w_later (l : List Nat) {t : Nat} (h : 16 ≤ t) (h2 : t < 64) :
    (wl l 64).getD t 0 = (s1 ((wl l 64).getD (t - 2) 0) + (wl l 64).getD (t - 7) 0 + s0 ((wl l 64).getD (t - 15) 0) + (wl l 64).getD (t - 16) 0) % 4294967296 := by
  rw [wl_at l h2, wnext, if_neg (by omega)]
  rw [wl_old l (show t - 2 < t by omega) 64 (by omega), wl_old l (show t - 7 < t by omega) 64 (by omega), wl_old l (show t - 15 < t by omega) 64 (by omega), wl_old l (show t - 16 < t by omega) 64 (by omega)]
theorem rnd_ok {s : St} (h : s.Ok) (k w : Nat) : (rnd s k w).Ok := ⟨Nat.mod_lt _ (by omega), h.a, h.b, h.c, Nat.mod_lt _ (by omega), h.e, h.f, h.g⟩
theorem rnds_ok {s : St} (h : s.Ok) (ws : List Nat) (t : Nat) : (rnds ws s t).Ok := by
  induction t with
  | zero => exact h
  | succ t ih => exact rnd_ok ih _ _
theorem plus_ok (s t : St) : (plus s t).Ok := by
  refine ⟨?_, ?_, ?_, ?_, ?_, ?_, ?_, ?_⟩ <;> exact Nat.mod_lt _ (by omega)
theorem block_ok (s : St) (l : List Nat) : (block s l).Ok := plus_ok _ _
/-- all chunks of l, n of them -/
def blocks (s : St) (l : List Nat) : Nat → St
  | 0 => s
  | n + 1 => block (blocks s l n) ((l.drop (64 * n)).take 64)
theorem blocks_ok {s : St} (h : s.Ok) (l : List Nat) (n : Nat) : (blocks s l n).Ok := by
  cases n with
  | zero => exact h
  | succ n => exact block_ok _ _
/-- what stands behind n bytes -/
def pad (n : Nat) : List Nat := 128 :: List.replicate ((119 - n % 64) % 64) 0 ++ (putL 8 (8 * n)).reverse
def first : St := stOf H0
theorem first_ok : first.Ok := stOf_ok H0_lt
def digest (s : St) : List Nat := s.lst.flatMap fun w => (putL 4 w).reverse
def sum (l : List Nat) : List Nat := digest (blocks first (l ++ pad l.length) ((l ++ pad l.length).length / 64))
set_option maxRecDepth 100000 in
theorem sum_abc : (sum [97, 98, 99]).take 4 = [0xBA, 0x78, 0x16, 0xBF] := by kernel_rfl
end Sha
end Go.Proofs.YtoclelpmampikaaGreat
