/-
  AES as plain numbers.
-/
import Derived.Test.YthjpaligpojlnaaMixM
namespace Go.Proofs.Ythjpaligpojlnaa
set_option linter.unusedVariables false
namespace Aes
/-- sixteen bytes -/
def tab (f : Nat → Nat) : List Nat := (List.range 16).map f
theorem tab_len (f : Nat → Nat) : (tab f).length = 16 := by simp [tab]
theorem tab_at (f : Nat → Nat) {i : Nat} (h : i < 16) : (tab f).getD i 0 = f i := by
  simp [tab, List.getD, List.getElem?_map, List.getElem?_range h]
theorem tab_out (f : Nat → Nat) {i : Nat} (h : 16 ≤ i) : (tab f).getD i 0 = 0 := by
  rw [List.getD_eq_getElem?_getD, List.getElem?_eq_none (by rw [tab_len]; exact h)]; rfl
theorem tab_congr {f g : Nat → Nat} (h : ∀ i, i < 16 → f i = g i) : tab f = tab g := by
  unfold tab
  exact List.map_congr_left fun i hi => h i (List.mem_range.mp hi)
theorem tab_self {l : List Nat} (h : l.length = 16) : tab (fun i => l.getD i 0) = l := by
  apply List.ext_getElem (by rw [tab_len, h])
  intro i h1 h2
  have h3 : (tab fun i => l.getD i 0)[i]? = some (l.getD i 0) := by
    unfold tab
    rw [List.getElem?_map, List.getElem?_range (by rw [tab_len] at h1; exact h1)]
    rfl
  rw [List.getElem?_eq_getElem h1] at h3
  rw [Option.some.inj h3, List.getD_eq_getElem?_getD, List.getElem?_eq_getElem h2]
  rfl
structure Ok (s : List Nat) : Prop where
  len : s.length = 16
  byte : ∀ i, s.getD i 0 < 256
theorem ok_tab {f : Nat → Nat} (h : ∀ i, i < 16 → f i < 256) : Ok (tab f) :=
  ⟨tab_len f, fun i => by
    by_cases hi : i < 16
    · rw [tab_at f hi]; exact h i hi
    · rw [tab_out f (by omega)]; omega⟩
def add (s : List Nat) (k : Nat → Nat) : List Nat := tab fun i => s.getD i 0 ^^^ k i
def sub (sb : Nat → Nat) (s : List Nat) : List Nat := tab fun i => sb (s.getD i 0)
def shift (by_ : Nat) (s : List Nat) : List Nat := tab fun i => s.getD (4 * ((i / 4 + by_ * (i % 4)) % 4) + i % 4) 0
def mix (F : Nat → Nat) (s : List Nat) : List Nat := tab fun i => mixC F (fun r => s.getD (4 * (i / 4) + r) 0) (i % 4)
theorem ok_add {s : List Nat} {k : Nat → Nat} (h : Ok s) (hk : ∀ i, k i < 256) : Ok (add s k) := ok_tab fun i _ => Gf.xor_lt (h.byte i) (hk i)
theorem ok_sub {sb : Nat → Nat} {s : List Nat} (h : Ok s) (hs : ∀ c, c < 256 → sb c < 256) : Ok (sub sb s) := ok_tab fun i _ => hs _ (h.byte i)
theorem ok_shift {s : List Nat} (b : Nat) (h : Ok s) : Ok (shift b s) := ok_tab fun i _ => h.byte _
theorem ok_mix {s : List Nat} (F : Nat → Nat) (h : Ok s) : Ok (mix F s) := ok_tab fun i _ => mixC_lt (fun r => h.byte _) _
theorem add_add {s : List Nat} (h : Ok s) (k : Nat → Nat) : add (add s k) k = s := by
  have e : add (add s k) k = tab fun i => s.getD i 0 := tab_congr fun i hi => by
    unfold add
    rw [tab_at _ hi, Nat.xor_assoc, Nat.xor_self, Nat.xor_zero]
  rw [e, tab_self h.len]
theorem sub_sub {f g : Nat → Nat} {s : List Nat} (h : Ok s) (hfg : ∀ c, c < 256 → g (f c) = c) : sub g (sub f s) = s := by
  have e : sub g (sub f s) = tab fun i => s.getD i 0 := tab_congr fun i hi => by
    unfold sub
    rw [tab_at _ hi, hfg _ (h.byte i)]
  rw [e, tab_self h.len]
theorem shift_at {a b c r : Nat} (hab : a + b = 4) (hc : c < 4) (hr : r < 4) : (((c + a * r) % 4) + b * r) % 4 = c := by
  obtain rfl : b = 4 - a := by omega
  rcases (by omega : a = 0 ∨ a = 1 ∨ a = 2 ∨ a = 3 ∨ a = 4) with rfl | rfl | rfl | rfl | rfl <;> omega
theorem shift_shift {a b : Nat} {s : List Nat} (h : Ok s) (hab : a + b = 4) : shift b (shift a s) = s := by
  have e : shift b (shift a s) = tab fun i => s.getD i 0 := tab_congr fun i hi => by
    unfold shift
    have h4 : (i / 4 + b * (i % 4)) % 4 < 4 := Nat.mod_lt _ (by omega)
    have hr : i % 4 < 4 := Nat.mod_lt _ (by omega)
    rw [tab_at _ (by omega)]
    have e1 : (4 * ((i / 4 + b * (i % 4)) % 4) + i % 4) / 4 = (i / 4 + b * (i % 4)) % 4 := by omega
    have e2 : (4 * ((i / 4 + b * (i % 4)) % 4) + i % 4) % 4 = i % 4 := by omega
    rw [e1, e2, shift_at (a := b) (b := a) (by omega) (by omega) hr]
    congr 1
    omega
  rw [e, tab_self h.len]
theorem mixC_congr (F : Nat → Nat) {C D : Nat → Nat} (h : ∀ i, i < 4 → C i = D i) (k : Nat) : mixC F C k = mixC F D k := by
  rw [mixC_eq, mixC_eq, h _ (Nat.mod_lt k (by omega)), h _ (Nat.mod_lt (k + 1) (by omega)), h _ (Nat.mod_lt (k + 2) (by omega)), h _ (Nat.mod_lt (k + 3) (by omega))]
theorem mix_mix {F G : Nat → Nat} {s : List Nat} (h : Ok s) (hc : coef_chk F G = true) : mix G (mix F s) = s := by
  have e : mix G (mix F s) = tab fun i => s.getD i 0 := tab_congr fun i hi => by
    unfold mix
    have hr : i % 4 < 4 := Nat.mod_lt _ (by omega)
    rw [mixC_congr G (D := mixC F fun r => s.getD (4 * (i / 4) + r) 0) (fun r hr => by
      rw [tab_at _ (by omega)]
      have e1 : (4 * (i / 4) + r) / 4 = i / 4 := by omega
      have e2 : (4 * (i / 4) + r) % 4 = r := by omega
      rw [e1, e2])]
    rw [twice_mix (fun r => h.byte _) hc _ hr]
    congr 1
    omega
  rw [e, tab_self h.len]
/-- the key of round n -/
def rk (ks : List Nat) (n i : Nat) : Nat := ks.getD (16 * n + i) 0
def encR (sb : Nat → Nat) (ks : List Nat) (s : List Nat) : Nat → List Nat
  | 0 => add s (rk ks 0)
  | n + 1 => add (mix facM (shift 1 (sub sb (encR sb ks s n)))) (rk ks (n + 1))
def enc (sb : Nat → Nat) (ks : List Nat) (N : Nat) (s : List Nat) : List Nat := add (shift 1 (sub sb (encR sb ks s (N - 1)))) (rk ks N)
def decR (bk : Nat → Nat) (ks : List Nat) (N : Nat) (s : List Nat) : Nat → List Nat
  | 0 => sub bk (shift 3 (add s (rk ks N)))
  | j + 1 => sub bk (shift 3 (mix facU (add (decR bk ks N s j) (rk ks (N - 1 - j)))))
def dec (bk : Nat → Nat) (ks : List Nat) (N : Nat) (s : List Nat) : List Nat := add (decR bk ks N s (N - 1)) (rk ks 0)
section
variable {sb bk : Nat → Nat} {ks : List Nat} {N : Nat} {s : List Nat}
theorem rk_lt (hk : ∀ i, ks.getD i 0 < 256) (n i : Nat) : rk ks n i < 256 := hk _
theorem ok_encR (hs : ∀ c, c < 256 → sb c < 256) (hk : ∀ i, ks.getD i 0 < 256) (h : Ok s) (n : Nat) : Ok (encR sb ks s n) := by
  induction n with
  | zero => exact ok_add h (rk_lt hk _)
  | succ n ih => exact ok_add (ok_mix _ (ok_shift _ (ok_sub ih hs))) (rk_lt hk _)
theorem ok_enc (hs : ∀ c, c < 256 → sb c < 256) (hk : ∀ i, ks.getD i 0 < 256) (h : Ok s) : Ok (enc sb ks N s) := ok_add (ok_shift _ (ok_sub (ok_encR hs hk h _) hs)) (rk_lt hk _)
theorem ok_decR (hb : ∀ c, c < 256 → bk c < 256) (hk : ∀ i, ks.getD i 0 < 256) (h : Ok s) (n : Nat) : Ok (decR bk ks N s n) := by
  induction n with
  | zero => exact ok_sub (ok_shift _ (ok_add h (rk_lt hk _))) hb
  | succ n ih => exact ok_sub (ok_shift _ (ok_mix _ (ok_add ih (rk_lt hk _)))) hb
theorem ok_dec (hb : ∀ c, c < 256 → bk c < 256) (hk : ∀ i, ks.getD i 0 < 256) (h : Ok s) : Ok (dec bk ks N s) := ok_add (ok_decR hb hk h _) (rk_lt hk _)
theorem dec_enc (hs : ∀ c, c < 256 → sb c < 256) (hk : ∀ i, ks.getD i 0 < 256) (hbs : ∀ c, c < 256 → bk (sb c) = c) (hN : 1 ≤ N) (h : Ok s) : dec bk ks N (enc sb ks N s) = s := by
  have key : ∀ j, j ≤ N - 1 → decR bk ks N (enc sb ks N s) j = encR sb ks s (N - 1 - j) := by
    intro j
    induction j with
    | zero =>
      intro _
      have ho := ok_encR hs hk h (N - 1)
      rw [decR, enc, add_add (ok_shift _ (ok_sub ho hs)), shift_shift (ok_sub ho hs) (by omega), sub_sub ho hbs]
      rfl
    | succ j ih =>
      intro hj
      have ho := ok_encR hs hk h (N - 1 - (j + 1))
      rw [decR, ih (by omega)]
      obtain ⟨m, hm⟩ : ∃ m, N - 1 - j = m + 1 := ⟨N - 1 - (j + 1), by omega⟩
      have hm2 : N - 1 - (j + 1) = m := by omega
      rw [hm2] at ho ⊢
      rw [hm, encR, add_add (ok_mix _ (ok_shift _ (ok_sub ho hs))), mix_mix (ok_shift _ (ok_sub ho hs)) coef_MU, shift_shift (ok_sub ho hs) (by omega), sub_sub ho hbs]
  rw [dec, key (N - 1) (by omega)]
  have e : N - 1 - (N - 1) = 0 := by omega
  rw [e, encR, add_add h]
theorem enc_dec (hb : ∀ c, c < 256 → bk c < 256) (hk : ∀ i, ks.getD i 0 < 256) (hsb : ∀ c, c < 256 → sb (bk c) = c) (hN : 1 ≤ N) (h : Ok s) : enc sb ks N (dec bk ks N s) = s := by
  have key : ∀ n, n ≤ N - 1 → encR sb ks (dec bk ks N s) n = decR bk ks N s (N - 1 - n) := by
    intro n
    induction n with
    | zero =>
      intro _
      rw [encR, dec, add_add (ok_decR hb hk h _)]
      rfl
    | succ n ih =>
      intro hn
      rw [encR, ih (by omega)]
      obtain ⟨m, hm⟩ : ∃ m, N - 1 - n = m + 1 := ⟨N - 1 - (n + 1), by omega⟩
      have hm2 : N - 1 - (n + 1) = m := by omega
      have hm3 : N - 1 - m = n + 1 := by omega
      have ho := ok_decR (N := N) hb hk h m
      have ho2 := ok_add ho (rk_lt hk (n + 1))
      rw [hm2, hm, decR, hm3, sub_sub (ok_shift _ (ok_mix _ ho2)) hsb, shift_shift (ok_mix _ ho2) (by omega), mix_mix ho2 coef_UM, add_add ho]
  rw [enc, key (N - 1) (by omega)]
  have e : N - 1 - (N - 1) = 0 := by omega
  have ho2 := ok_add h (rk_lt hk N)
  rw [e, decR, sub_sub (ok_shift _ ho2) hsb, shift_shift ho2 (by omega), add_add h]
end
/-- byte r of word number i of the schedule, those ahead of it being ks -/
def wnext (sb : Nat → Nat) (n : Nat) (ks : List Nat) (i r : Nat) : Nat :=
  ks.getD (4 * (i - n) + r) 0 ^^^
    (if i % n = 0 then sb (ks.getD (4 * (i - 1) + (r + 1) % 4) 0) ^^^ (if r = 0 then Gf.pw 2 (i / n - 1) else 0)
     else if n = 8 ∧ i % 8 = 4 then sb (ks.getD (4 * (i - 1) + r) 0) else ks.getD (4 * (i - 1) + r) 0)
/-- the first so many words of the schedule -/
def sch (sb : Nat → Nat) (key : List Nat) (n : Nat) : Nat → List Nat
  | 0 => []
  | i + 1 => sch sb key n i ++ (if i < n then [key.getD (4 * i) 0, key.getD (4 * i + 1) 0, key.getD (4 * i + 2) 0, key.getD (4 * i + 3) 0]
      else [wnext sb n (sch sb key n i) i 0, wnext sb n (sch sb key n i) i 1, wnext sb n (sch sb key n i) i 2, wnext sb n (sch sb key n i) i 3])
section
variable {sb : Nat → Nat} {key : List Nat} {n : Nat}
theorem sch_len (i : Nat) : (sch sb key n i).length = 4 * i := by
  induction i with
  | zero => rfl
  | succ i ih =>
    rw [sch, List.length_append, ih]
    split <;> simp <;> omega
theorem sch_old {i j : Nat} (h : j < 4 * i) : ∀ m, i ≤ m → (sch sb key n m).getD j 0 = (sch sb key n i).getD j 0 := by
  intro m
  induction m with
  | zero => intro h'; have : i = 0 := by omega
            omega
  | succ m ih =>
    intro h'
    by_cases e : i = m + 1
    · rw [e]
    · rw [← ih (by omega), sch]
      have := sch_len (sb := sb) (key := key) (n := n) m
      simp [List.getD, List.getElem?_append_left (show j < (sch sb key n m).length by omega)]
theorem sch_new {i r : Nat} (hr : r < 4) : (sch sb key n (i + 1)).getD (4 * i + r) 0 = if i < n then key.getD (4 * i + r) 0 else wnext sb n (sch sb key n i) i r := by
  have hl := sch_len (sb := sb) (key := key) (n := n) i
  rw [sch, List.getD_eq_getElem?_getD, List.getElem?_append_right (by omega), hl]
  have e : 4 * i + r - 4 * i = r := by omega
  rw [e]
  split <;> rcases (by omega : r = 0 ∨ r = 1 ∨ r = 2 ∨ r = 3) with rfl | rfl | rfl | rfl <;> rfl
theorem sch_byte (hs : ∀ c, c < 256 → sb c < 256) (hk : ∀ i, key.getD i 0 < 256) : ∀ i j, (sch sb key n i).getD j 0 < 256 := by
  intro i
  induction i with
  | zero => intro j; simp [sch]
  | succ i ih =>
    intro j
    by_cases h : j < 4 * i
    · rw [sch_old h _ (by omega)]; exact ih j
    · by_cases h2 : j < 4 * i + 4
      · obtain ⟨r, rfl⟩ : ∃ r, j = 4 * i + r := ⟨j - 4 * i, by omega⟩
        rw [sch_new (by omega)]
        split
        · exact hk _
        · unfold wnext
          refine Gf.xor_lt (ih _) ?_
          split
          · refine Gf.xor_lt (hs _ (ih _)) ?_
            split
            · exact Gf.pw_lt (by omega) _
            · omega
          · split
            · exact hs _ (ih _)
            · exact ih _
      · rw [List.getD_eq_getElem?_getD, List.getElem?_eq_none (by rw [sch_len]; omega)]
        simp
end
/-- the box as a table -/
def box : List Nat := [
  99, 124, 119, 123, 242, 107, 111, 197, 48, 1, 103, 43, 254, 215, 171, 118,
  202, 130, 201, 125, 250, 89, 71, 240, 173, 212, 162, 175, 156, 164, 114, 192,
  183, 253, 147, 38, 54, 63, 247, 204, 52, 165, 229, 241, 113, 216, 49, 21,
  4, 199, 35, 195, 24, 150, 5, 154, 7, 18, 128, 226, 235, 39, 178, 117,
  9, 131, 44, 26, 27, 110, 90, 160, 82, 59, 214, 179, 41, 227, 47, 132,
  83, 209, 0, 237, 32, 252, 177, 91, 106, 203, 190, 57, 74, 76, 88, 207,
  208, 239, 170, 251, 67, 77, 51, 133, 69, 249, 2, 127, 80, 60, 159, 168,
  81, 163, 64, 143, 146, 157, 56, 245, 188, 182, 218, 33, 16, 255, 243, 210,
  205, 12, 19, 236, 95, 151, 68, 23, 196, 167, 126, 61, 100, 93, 25, 115,
  96, 129, 79, 220, 34, 42, 144, 136, 70, 238, 184, 20, 222, 94, 11, 219,
  224, 50, 58, 10, 73, 6, 36, 92, 194, 211, 172, 98, 145, 149, 228, 121,
  231, 200, 55, 109, 141, 213, 78, 169, 108, 86, 244, 234, 101, 122, 174, 8,
  186, 120, 37, 46, 28, 166, 180, 198, 232, 221, 116, 31, 75, 189, 139, 138,
  112, 62, 181, 102, 72, 3, 246, 14, 97, 53, 87, 185, 134, 193, 29, 158,
  225, 248, 152, 17, 105, 217, 142, 148, 155, 30, 135, 233, 206, 85, 40, 223,
  140, 161, 137, 13, 191, 230, 66, 104, 65, 153, 45, 15, 176, 84, 187, 22]
def boxT (c : Nat) : Nat := box.getD c 0
def box_chk : Bool := (List.range 256).all fun c => Gf.spread (Gf.fast c) == boxT c
theorem box_chk_true : box_chk = true := by kernel_rfl
theorem sub_box {c : Nat} (hc : c < 256) : Gf.sub c = boxT c := by
  have := List.all_eq_true.mp box_chk_true c (List.mem_range.mpr hc)
  unfold Gf.sub
  rw [Gf.inv_fast hc]
  exact eq_of_beq this
theorem sub_congr {f g : Nat → Nat} (h : ∀ c, c < 256 → f c = g c) {s : List Nat} (hs : Ok s) : sub f s = sub g s := tab_congr fun i _ => h _ (hs.byte i)
theorem encR_congr {f g : Nat → Nat} (h : ∀ c, c < 256 → f c = g c) (hf : ∀ c, c < 256 → f c < 256) {ks s : List Nat} (hk : ∀ i, ks.getD i 0 < 256) (hs : Ok s) (n : Nat) : encR f ks s n = encR g ks s n := by
  induction n with
  | zero => rfl
  | succ n ih =>
    have ho := ok_encR (sb := f) hf hk hs n
    rw [encR, encR, sub_congr h ho, ih]
theorem enc_congr {f g : Nat → Nat} (h : ∀ c, c < 256 → f c = g c) (hf : ∀ c, c < 256 → f c < 256) {ks s : List Nat} (hk : ∀ i, ks.getD i 0 < 256) (hs : Ok s) (N : Nat) : enc f ks N s = enc g ks N s := by
  rw [enc, enc, sub_congr h (ok_encR hf hk hs _), encR_congr h hf hk hs]
theorem sch_congr {f g : Nat → Nat} (h : ∀ c, c < 256 → f c = g c) (hf : ∀ c, c < 256 → f c < 256) {key : List Nat} (hk : ∀ i, key.getD i 0 < 256) (n : Nat) : ∀ i, sch f key n i = sch g key n i := by
  intro i
  induction i with
  | zero => rfl
  | succ i ih =>
    have hb := sch_byte (sb := f) (n := n) hf hk i
    have e : ∀ r, wnext f n (sch f key n i) i r = wnext g n (sch g key n i) i r := fun r => by
      rw [← ih]
      unfold wnext
      rw [h _ (hb _), h _ (hb _)]
    rw [sch, sch, e, e, e, e, ih]
def key0 : List Nat := [0, 1, 2, 3, 4, 5, 6, 7, 8, 9, 10, 11, 12, 13, 14, 15]
def plain0 : List Nat := [0, 17, 34, 51, 68, 85, 102, 119, 136, 153, 170, 187, 204, 221, 238, 255]
set_option maxRecDepth 100000 in
theorem example_T : enc boxT (sch boxT key0 4 44) 10 plain0 = [0x69, 0xC4, 0xE0, 0xD8, 0x6A, 0x7B, 0x04, 0x30, 0xD8, 0xCD, 0xB7, 0x80, 0x70, 0xB4, 0xC5, 0x5A] := by kernel_rfl
end Aes
end Go.Proofs.Ythjpaligpojlnaa
