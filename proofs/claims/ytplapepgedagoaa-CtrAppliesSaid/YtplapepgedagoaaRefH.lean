/-
  The document's cipher: Encrypt.
-/
import Derived.Test.YtplapepgedagoaaRefE
import Derived.Test.YtplapepgedagoaaCtrA
import Derived.Test.YtplapepgedagoaaAesN
namespace Go.Proofs.Ytplapepgedagoaa
open Go.RowKit Go
set_option linter.unusedVariables false
set_option linter.unusedSimpArgs false
attribute [local irreducible] Gf.inv Gf.tm Gf.pw Gf.spread Gf.sub Gf.boxAt Gf.bk Gf.rm Gf.bit
/-- the list behind round n -/
def stL (ks p : List Nat) (N n : Nat) : List Nat := if n < N then Aes.encR Gf.sub ks p n else Aes.enc Gf.sub ks N p
def subL (l : List Nat) : List Nat := Aes.shift 1 (Aes.sub Gf.sub l)
theorem stL_zero {ks p : List Nat} {N : Nat} (h : 0 < N) : stL ks p N 0 = Aes.add p (Aes.rk ks 0) := by unfold stL; rw [if_pos h]; rfl
theorem stL_mid {ks p : List Nat} {N n : Nat} (h0 : 1 ≤ n) (h : n < N) : stL ks p N n = Aes.add (Aes.mix facM (subL (stL ks p N (n - 1)))) (Aes.rk ks n) := by
  obtain ⟨m, rfl⟩ : ∃ m, n = m + 1 := ⟨n - 1, by omega⟩
  unfold stL subL
  rw [if_pos h, Nat.add_sub_cancel, if_pos (by omega)]; rfl
theorem stL_end {ks p : List Nat} {N : Nat} (h0 : 1 ≤ N) : stL ks p N N = Aes.add (subL (stL ks p N (N - 1))) (Aes.rk ks N) := by
  unfold stL subL
  rw [if_neg (by omega), if_pos (by omega)]; rfl
theorem stL_ok {ks p : List Nat} {N : Nat} (hk : ∀ j, ks.getD j 0 < 256) (hp : Aes.Ok p) (n : Nat) : Aes.Ok (stL ks p N n) := by
  unfold stL
  split
  · exact Aes.ok_encR (fun c h => Gf.sub_lt h) hk hp n
  · exact Aes.ok_enc (fun c h => Gf.sub_lt h) hk hp
theorem subL_ok {l : List Nat} (h : Aes.Ok l) : Aes.Ok (subL l) := Aes.ok_shift _ (Aes.ok_sub h (fun c h => Gf.sub_lt h))
theorem subL_at {l : List Nat} (k r : Nat) (hk : k < 4) (hr : r < 4) : (subL l).getD (4 * k + r) 0 = Gf.sub (l.getD (4 * ((k + r) % 4) + r) 0) := by
  unfold subL Aes.shift Aes.sub
  rw [Aes.tab_at _ (by omega), Aes.tab_at _ (by omega)]
  congr 2
  omega
theorem add_at (l : List Nat) (f : Nat → Nat) {i : Nat} (hi : i < 16) : (Aes.add l f).getD i 0 = l.getD i 0 ^^^ f i := by unfold Aes.add; rw [Aes.tab_at _ hi]
/-- a square of which the first m cells are of new, the others of old -/
def sqP (new old : List Nat) (m : Nat) (i : Nat) : Value := if i < m then sq new i else sq old i
theorem sqP_zero (new old : List Nat) : ∀ i, i < 16 → sq old i = sqP new old 0 i := fun i _ => by unfold sqP; rw [if_neg (by omega)]
theorem sqP_full (new old : List Nat) {m : Nat} (h : 16 ≤ m) : ∀ i, i < 16 → sqP new old m i = sq new i := fun i hi => by unfold sqP; rw [if_pos (by omega)]
theorem sqP_step {W : World} {g : Nat} {t : TypeId} {new old : List Nat} {r k x : Nat} (hr : r < 4) (hk : k < 4) (hx : new.getD (4 * k + r) 0 = x) (h : Row W g t (sqP new old (r * 4 + k)) 16) :
    Row (W.setCell ⟨g, r * 4 + k, none⟩ (.int .u8 (x : Int))) g t (sqP new old (r * 4 + (k + 1))) 16 :=
  (h.set_ (r * 4 + k) _).congr fun i hi => by
    by_cases e : i = r * 4 + k
    · subst e; rw [if_pos rfl]; unfold sqP; rw [if_pos (by omega), sq_at new hr hk, hx]
    · rw [if_neg e]; unfold sqP
      by_cases c : i < r * 4 + k
      · rw [if_pos c, if_pos (by omega)]
      · rw [if_neg c, if_neg (by omega)]
/-- the first list is being put in, by columns -/
def sqC (new : List Nat) (m : Nat) (i : Nat) : Value := if 4 * (i % 4) + i / 4 < m then sq new i else sq [] i
structure EncA (w : World) (lp new : List Nat) (m : Nat) (W : World) : Prop where
  below : Below w.heap.size w W
  p : Row W w.heap.size 22 (bF lp) 16
  z : Row W (w.heap.size + 1) 22 (bF z16) 16
  s : Row W (w.heap.size + 1 + 1) 101 (sqC new m) 16
theorem encA_start (w : World) (lp new : List Nat) : EncA w lp new 0 (((w.alloc (.cells (rowV (bF lp) 16) 22)).alloc (.cells (rowV (bF z16) 16) 22)).alloc (.cells (rowV (sq []) 16) 101)) := by
  have e1 : ∀ o, (w.alloc o).heap.size = w.heap.size + 1 := fun o => by simp
  have e2 : ∀ o o', ((w.alloc o).alloc o').heap.size = w.heap.size + 1 + 1 := fun o o' => by simp
  refine ⟨(((Below.refl _ _).alloc (Nat.le_refl _) _).alloc (by rw [e1]; omega) _).alloc (by rw [e2]; omega) _, blk_alloc (blk_alloc (heap_alloc_new w _) _) _, ?_, ?_⟩
  · have h := heap_alloc_new (w.alloc (.cells (rowV (bF lp) 16) 22)) (.cells (rowV (bF z16) 16) 22)
    rw [e1] at h
    exact blk_alloc h _
  · have h := heap_alloc_new ((w.alloc (.cells (rowV (bF lp) 16) 22)).alloc (.cells (rowV (bF z16) 16) 22)) (.cells (rowV (sq []) 16) 101)
    rw [e2] at h
    exact Row.congr h fun i _ => by unfold sqC; rw [if_neg (by omega)]
theorem EncA.drew {w W : World} {lp new : List Nat} {m : Nat} (h : EncA w lp new m W) : EncA w lp new m W.drew := ⟨h.below.drew, h.p, h.z, h.s⟩
theorem EncA.step {w W : World} {lp new : List Nat} {q d x : Nat} (hq : q < 4) (hd : d < 4) (hx : new.getD (4 * d + q) 0 = x) (h : EncA w lp new (4 * d + q) W) :
    EncA w lp new (4 * d + q + 1) (W.setCell ⟨w.heap.size + 1 + 1, q * 4 + d, none⟩ (.int .u8 (x : Int))) := by
  refine ⟨h.below.setCell (p := ⟨w.heap.size + 1 + 1, q * 4 + d, none⟩) (by show w.heap.size ≤ w.heap.size + 1 + 1; omega) _, h.p.far (by show w.heap.size ≠ w.heap.size + 1 + 1; omega) _, h.z.far (by show w.heap.size + 1 ≠ w.heap.size + 1 + 1; omega) _, (h.s.set_ (q * 4 + d) _).congr fun i hi => ?_⟩
  by_cases e : i = q * 4 + d
  · subst e; rw [if_pos rfl]; unfold sqC; rw [if_pos (by omega), sq_at new hq hd, hx]
  · rw [if_neg e]; unfold sqC
    by_cases c : 4 * (i % 4) + i / 4 < 4 * d + q
    · rw [if_pos c, if_pos (by omega)]
    · rw [if_neg c, if_neg (by omega)]
/-- between the rounds -/
structure EncB (w : World) (l : List Nat) (W : World) : Prop where
  below : Below w.heap.size w W
  z : Row W (w.heap.size + 1) 22 (bF z16) 16
  s : Row W (w.heap.size + 1 + 1) 101 (sq l) 16
theorem EncB.next {w W W' : World} {l : List Nat} (h : EncB w l W) (hb : Below W.heap.size W W') : EncB w l W' :=
  ⟨h.below.trans (hb.mono h.below.size), h.z.below hb h.z.lt, h.s.below hb h.s.lt⟩
/-- the square t is being put in -/
structure EncT (w : World) (l new : List Nat) (gt m : Nat) (W : World) : Prop where
  b : EncB w l W
  ge : w.heap.size + 1 + 1 < gt
  t : Row W gt 101 (sqP new [] m) 16
theorem EncT.drew {w W : World} {l new : List Nat} {gt m : Nat} (h : EncT w l new gt m W) : EncT w l new gt m W.drew := ⟨h.b.next (Below.refl _ _).drew, h.ge, h.t⟩
theorem EncT.step {w W : World} {l new : List Nat} {gt r k x : Nat} (hr : r < 4) (hk : k < 4) (hx : new.getD (4 * k + r) 0 = x) (h : EncT w l new gt (r * 4 + k) W) :
    EncT w l new gt (r * 4 + (k + 1)) (W.setCell ⟨gt, r * 4 + k, none⟩ (.int .u8 (x : Int))) :=
  ⟨⟨h.b.below.setCell (p := ⟨gt, r * 4 + k, none⟩) (by have := h.ge; show w.heap.size ≤ gt; omega) _, h.b.z.far (by have := h.ge; show w.heap.size + 1 ≠ gt; omega) _, h.b.s.far (by have := h.ge; show w.heap.size + 1 + 1 ≠ gt; omega) _⟩, h.ge, sqP_step hr hk hx h.t⟩
/-- the key is being added -/
structure EncK (w : World) (lt new old : List Nat) (gt m : Nat) (W : World) : Prop where
  below : Below w.heap.size w W
  z : Row W (w.heap.size + 1) 22 (bF z16) 16
  s : Row W (w.heap.size + 1 + 1) 101 (sqP new old m) 16
  ge : w.heap.size + 1 + 1 < gt
  t : Row W gt 101 (sq lt) 16
theorem EncK.drew {w W : World} {lt new old : List Nat} {gt m : Nat} (h : EncK w lt new old gt m W) : EncK w lt new old gt m W.drew := ⟨h.below.drew, h.z, h.s, h.ge, h.t⟩
theorem EncK.step {w W : World} {lt new old : List Nat} {gt r k x : Nat} (hr : r < 4) (hk : k < 4) (hx : new.getD (4 * k + r) 0 = x) (h : EncK w lt new old gt (r * 4 + k) W) :
    EncK w lt new old gt (r * 4 + (k + 1)) (W.setCell ⟨w.heap.size + 1 + 1, r * 4 + k, none⟩ (.int .u8 (x : Int))) :=
  ⟨h.below.setCell (p := ⟨w.heap.size + 1 + 1, r * 4 + k, none⟩) (by show w.heap.size ≤ w.heap.size + 1 + 1; omega) _, h.z.far (by show w.heap.size + 1 ≠ w.heap.size + 1 + 1; omega) _, sqP_step hr hk hx h.s, h.ge, h.t.far (by have := h.ge; show gt ≠ w.heap.size + 1 + 1; omega) _⟩
def outF (l : List Nat) (m i : Nat) : Value := if i < m then bF l i else bF z16 i
structure EncO (w : World) (l : List Nat) (go m : Nat) (W : World) : Prop where
  b : EncB w l W
  ge : w.heap.size + 1 + 1 < go
  o : Row W go 22 (outF l m) 16
theorem EncO.step {w W : World} {l : List Nat} {go i x : Nat} (hi : i < 16) (hx : l.getD i 0 = x) (h : EncO w l go i W) : EncO w l go (i + 1) (W.setCell ⟨go, i, none⟩ (.int .u8 (x : Int))) :=
  ⟨⟨h.b.below.setCell (p := ⟨go, i, none⟩) (by have := h.ge; show w.heap.size ≤ go; omega) _, h.b.z.far (by have := h.ge; show w.heap.size + 1 ≠ go; omega) _, h.b.s.far (by have := h.ge; show w.heap.size + 1 + 1 ≠ go; omega) _⟩, h.ge, (h.o.set_ i _).congr fun j hj => by
    by_cases e : j = i
    · subst e; rw [if_pos rfl]; unfold outF; rw [if_pos (by omega), ← hx]; rfl
    · rw [if_neg e]; unfold outF
      by_cases c : j < i
      · rw [if_pos c, if_pos (by omega)]
      · rw [if_neg c, if_neg (by omega)]⟩
set_option maxHeartbeats 8000000 in
set_option maxRecDepth 100000 in
theorem refEncrypt_any (g N bw cap : Nat) (ks lp : List Nat) (w : World) (hK : RefK w g N ks bw cap) (hp : Aes.Ok lp) (hkb : ∀ j, ks.getD j 0 < 256) (hN : 1 ≤ N ∧ N ≤ 14) :
    Calls Try.prog 16 #[.pointer (some ⟨g, 0, none⟩), .agg (rowV (bF lp) 16)] w fun e w' => e = .returned (.agg (rowV (bF (Aes.enc Gf.sub ks N lp)) 16)) ∧ Below w.heap.size w w' := by
  have hz := zero16
  have hz4 := zero44
  have H0 := Lib.hid (encA_start w lp (stL ks lp N 0))
  have HOK := Lib.hid hp
  have HLB := Lib.hid hp.byte
  have HKB := Lib.hid hkb
  have HK := Lib.hid hK
  have hN1 := hN.1
  have hN2 := hN.2
  have hcap1 := hK.cap.1
  have hcap2 := hK.cap.2
  obtain ⟨z, hzz⟩ : ∃ z, z = rowV (bF z16) 16 := ⟨_, rfl⟩
  obtain ⟨y, hyy⟩ : ∃ z, z = rowV (sq []) 16 := ⟨_, rfl⟩
  obtain ⟨xx, hxx⟩ : ∃ z, z = rowV (bF lp) 16 := ⟨_, rfl⟩
  have HZ16 := Lib.hid hzz
  have HY44 := Lib.hid hyy
  rw [← hzz] at hz
  rw [← hyy] at hz4
  rw [← hxx]
  rw [← hzz, ← hyy, ← hxx] at H0
  clear hzz hyy hxx hp hkb hK hN
  go_enter Try.func16, Try.ntmps16
  go_wp2
  go_loopw [6] (fun k wr => ∃ i : Nat, k = .int .i64 (i : Int) ∧ i ≤ 16 ∧ EncA w lp (stL ks lp N 0) i wr) (fun k _ => (16 - intOf k).toNat)
  case atStart => exact ⟨0, rfl, by omega, H0.out⟩
  case round =>
    obtain ⟨i, rfl, hi, hE⟩ := hrel
    clear H0
    by_cases hlt : i < 16
    · obtain ⟨q, hq⟩ : ∃ q, q = i % 4 := ⟨_, rfl⟩
      obtain ⟨d, hd⟩ : ∃ q, q = i / 4 := ⟨_, rfl⟩
      have hqd : i = 4 * d + q := by omega
      have hql : q < 4 := by omega
      have hdl : d < 4 := by omega
      have tq : (i : Int).tmod 4 = (q : Int) := by rw [Int.tmod_eq_emod_of_nonneg (by omega)]; omega
      have td : (i : Int).tdiv 4 = (d : Int) := by rw [Int.tdiv_eq_ediv_of_nonneg (by omega)]; omega
      have tq2 : (i : Int) % 4 = (q : Int) := by omega
      have td2 : (i : Int) / 4 = (d : Int) := by omega
      have lq : (q : Int) < 4 := by omega
      have zq : 0 ≤ (q : Int) := by omega
      have ld : (d : Int) < 4 := by omega
      have zd : 0 ≤ (d : Int) := by omega
      have wd : IntKind.i64.wrap (d : Int) = (d : Int) := IntWalk.i64_in _ (by omega)
      have li : (i : Int) < 16 := by omega
      have zi : 0 ≤ (i : Int) := by omega
      obtain ⟨a, ha⟩ : ∃ a, a = lp.getD i 0 := ⟨_, rfl⟩
      obtain ⟨b, hb⟩ : ∃ a, a = ks.getD i 0 := ⟨_, rfl⟩
      obtain ⟨x, hx⟩ : ∃ x, x = a ^^^ b := ⟨_, rfl⟩
      have X1 : bits BinOp.xor IntKind.u8 (a : Int) (b : Int) = (x : Int) := by rw [hx]; exact xor8 (by rw [ha]; exact HLB.out _) (by rw [hb]; exact HKB.out _)
      have hval : (stL ks lp N 0).getD (4 * d + q) 0 = x := by rw [stL_zero (by omega), add_at _ _ (by omega), hx, ha, hb, hqd]; unfold Aes.rk; rw [Nat.mul_zero, Nat.zero_add]
      have hE' : EncA w lp (stL ks lp N 0) (4 * d + q) wr := by rw [← hqd]; exact hE
      have HST := Lib.hid (EncA.step hql hdl hval hE').drew
      have k0 : wr.cell? ⟨w.heap.size, i, none⟩ = some (.int .u8 (a : Int)) := by rw [ha]; exact hE.p.cell (by omega)
      have hK2 := HK.out.next (Below.refl _ _).drew
      have k1 : wr.cell? ⟨g, 512, none⟩ = some (.slice (some ⟨bw, 0, none⟩) (4 * (N + 1)) cap) := (hE.below.cell (p := ⟨g, 512, none⟩) HK.out.lt).trans HK.out.words
      have k2 : wr.cell? ⟨bw, d * 4 + q, none⟩ = some (.int .u8 (b : Int)) := by
        rw [hb, hqd, Nat.mul_comm 4 d]; exact (hE.below.cell (p := ⟨bw, d * 4 + q, none⟩) HK.out.lt2).trans (HK.out.at_ _ (by omega))
      obtain ⟨old, hold⟩ : ∃ old, wr.cell? ⟨w.heap.size + 1 + 1, q * 4 + d, none⟩ = some old := ⟨_, hE.s.cell (by omega)⟩
      have hfr : wr.frozen? ⟨w.heap.size + 1 + 1, q * 4 + d, none⟩ = false := hE.s.free _
      have lw : (d : Int) < 4 * ((N : Int) + 1) := by omega
      have HKK := Lib.hid (And.intro k0 (And.intro k1 k2))
      have li1 : i + 1 ≤ 16 := by omega
      have e1 : 4 * d + q + 1 = i + 1 := by omega
      rw [e1] at HST
      clear k0 k1 k2 hE hE' hval hK2 ha hb hx hqd hq hd e1
      go_wp2_with fail
      refine wp_region_F (S := (fun W => W.cell? ⟨w.heap.size, i, none⟩ = some (.int .u8 (a : Int)) ∧ W.cell? ⟨g, 512, none⟩ = some (.slice (some ⟨bw, 0, none⟩) (4 * (N + 1)) cap) ∧ W.cell? ⟨bw, d * 4 + q, none⟩ = some (.int .u8 (b : Int)))) [21] (by kernel_rfl) (HKK.out) (fun hHeld => ?_)
      refine wpAnyF_take (i := 0) (oi := _) (v := ?_) rfl (by kernel_rfl) (by kernel_rfl) (by kernel_rfl) (by kernel_rfl) (fun _ _ _ h => h) (Or.inl ⟨by rfl, ?_⟩) (by assumption) ?_
      rotate_left 1
      · intro w hSw
        (try dsimp only at hSw)
        (first | (go_simp; done) | (go_simp; with_reducible rfl))
      (try simp only [Act.put, List.getElem_toArray, List.getElem_cons_succ, List.getElem_cons_zero, List.setIfInBounds_toArray, List.set_cons_zero, List.set_cons_succ])
      refine wpAnyF_take (i := 1) (oi := _) (v := ?_) rfl (by kernel_rfl) (by kernel_rfl) (by kernel_rfl) (by kernel_rfl) (fun _ _ _ h => h) (Or.inl ⟨by rfl, ?_⟩) (by assumption) ?_
      rotate_left 1
      · intro w hSw
        (try dsimp only at hSw)
        (first | (go_simp; done) | (go_simp; with_reducible rfl))
      (try simp only [Act.put, List.getElem_toArray, List.getElem_cons_succ, List.getElem_cons_zero, List.setIfInBounds_toArray, List.set_cons_zero, List.set_cons_succ])
      refine wpAnyF_take (i := 2) (oi := _) (v := ?_) rfl (by kernel_rfl) (by kernel_rfl) (by kernel_rfl) (by kernel_rfl) (fun _ _ _ h => h) (Or.inl ⟨by rfl, ?_⟩) (by assumption) ?_
      rotate_left 1
      · intro w hSw
        (try dsimp only at hSw)
        (first | (go_simp; done) | (go_simp; with_reducible rfl))
      (try simp only [Act.put, List.getElem_toArray, List.getElem_cons_succ, List.getElem_cons_zero, List.setIfInBounds_toArray, List.set_cons_zero, List.set_cons_succ])
      refine wpAnyF_take (i := 3) (oi := _) (v := ?_) rfl (by kernel_rfl) (by kernel_rfl) (by kernel_rfl) (by kernel_rfl) (fun _ _ _ h => h) (Or.inl ⟨by rfl, ?_⟩) (by assumption) ?_
      rotate_left 1
      · intro w hSw
        (try dsimp only at hSw)
        (first | (go_simp; done) | (go_simp; with_reducible rfl))
      (try simp only [Act.put, List.getElem_toArray, List.getElem_cons_succ, List.getElem_cons_zero, List.setIfInBounds_toArray, List.set_cons_zero, List.set_cons_succ])
      refine wpAnyF_take (i := 4) (oi := _) (v := ?_) rfl (by kernel_rfl) (by kernel_rfl) (by kernel_rfl) (by kernel_rfl) (fun _ _ _ h => h) (Or.inl ⟨by rfl, ?_⟩) (by assumption) ?_
      rotate_left 1
      · intro w hSw
        (try dsimp only at hSw)
        (first | (go_simp; done) | (go_simp; with_reducible rfl))
      (try simp only [Act.put, List.getElem_toArray, List.getElem_cons_succ, List.getElem_cons_zero, List.setIfInBounds_toArray, List.set_cons_zero, List.set_cons_succ])
      refine wpAnyF_take (i := 5) (oi := _) (v := ?_) rfl (by kernel_rfl) (by kernel_rfl) (by kernel_rfl) (by kernel_rfl) (fun _ _ _ h => h) (Or.inl ⟨by rfl, ?_⟩) (by assumption) ?_
      rotate_left 1
      · intro w hSw
        (try dsimp only at hSw)
        (first | (go_simp; done) | (go_simp; with_reducible rfl))
      (try simp only [Act.put, List.getElem_toArray, List.getElem_cons_succ, List.getElem_cons_zero, List.setIfInBounds_toArray, List.set_cons_zero, List.set_cons_succ])
      refine wpAnyF_take (i := 6) (oi := _) (v := ?_) rfl (by kernel_rfl) (by kernel_rfl) (by kernel_rfl) (by kernel_rfl) (fun _ _ _ h => h) (Or.inl ⟨by rfl, ?_⟩) (by assumption) ?_
      rotate_left 1
      · intro w hSw
        (try dsimp only at hSw)
        (first | (go_simp; done) | (go_simp; with_reducible rfl))
      (try simp only [Act.put, List.getElem_toArray, List.getElem_cons_succ, List.getElem_cons_zero, List.setIfInBounds_toArray, List.set_cons_zero, List.set_cons_succ])
      refine wpAnyF_take (i := 7) (oi := _) (v := ?_) rfl (by kernel_rfl) (by kernel_rfl) (by kernel_rfl) (by kernel_rfl) (fun _ _ _ h => h) (Or.inl ⟨by rfl, ?_⟩) (by assumption) ?_
      rotate_left 1
      · intro w hSw
        (try dsimp only at hSw)
        (first | (go_simp; done) | (go_simp; with_reducible rfl))
      (try simp only [Act.put, List.getElem_toArray, List.getElem_cons_succ, List.getElem_cons_zero, List.setIfInBounds_toArray, List.set_cons_zero, List.set_cons_succ])
      refine wpAnyF_take (i := 8) (oi := _) (v := ?_) rfl (by kernel_rfl) (by kernel_rfl) (by kernel_rfl) (by kernel_rfl) (fun _ _ _ h => h) (Or.inl ⟨by rfl, ?_⟩) (by assumption) ?_
      rotate_left 1
      · intro w hSw
        (try dsimp only at hSw)
        (first | (go_simp; done) | (go_simp; with_reducible rfl))
      (try simp only [Act.put, List.getElem_toArray, List.getElem_cons_succ, List.getElem_cons_zero, List.setIfInBounds_toArray, List.set_cons_zero, List.set_cons_succ])
      refine wpAnyF_take (i := 9) (oi := _) (v := ?_) rfl (by kernel_rfl) (by kernel_rfl) (by kernel_rfl) (by kernel_rfl) (fun _ _ _ h => h) (Or.inl ⟨by rfl, ?_⟩) (by assumption) ?_
      rotate_left 1
      · intro w hSw
        (try dsimp only at hSw)
        (first | (go_simp; done) | (go_simp; with_reducible rfl))
      (try simp only [Act.put, List.getElem_toArray, List.getElem_cons_succ, List.getElem_cons_zero, List.setIfInBounds_toArray, List.set_cons_zero, List.set_cons_succ])
      refine wpAnyF_take (i := 10) (oi := _) (v := ?_) rfl (by kernel_rfl) (by kernel_rfl) (by kernel_rfl) (by kernel_rfl) (fun _ _ _ h => h) (Or.inl ⟨by rfl, ?_⟩) (by assumption) ?_
      rotate_left 1
      · intro w hSw
        (try dsimp only at hSw)
        (first | (go_simp; done) | (go_simp; with_reducible rfl))
      (try simp only [Act.put, List.getElem_toArray, List.getElem_cons_succ, List.getElem_cons_zero, List.setIfInBounds_toArray, List.set_cons_zero, List.set_cons_succ])
      refine wpAnyF_take (i := 11) (oi := _) (v := ?_) rfl (by kernel_rfl) (by kernel_rfl) (by kernel_rfl) (by kernel_rfl) (fun _ _ _ h => h) (Or.inl ⟨by rfl, ?_⟩) (by assumption) ?_
      rotate_left 1
      · intro w hSw
        (try dsimp only at hSw)
        (first | (go_simp; done) | (go_simp; with_reducible rfl))
      (try simp only [Act.put, List.getElem_toArray, List.getElem_cons_succ, List.getElem_cons_zero, List.setIfInBounds_toArray, List.set_cons_zero, List.set_cons_succ])
      refine wpAnyF_take (i := 12) (oi := _) (v := ?_) rfl (by kernel_rfl) (by kernel_rfl) (by kernel_rfl) (by kernel_rfl) (fun _ _ _ h => h) (Or.inl ⟨by rfl, ?_⟩) (by assumption) ?_
      rotate_left 1
      · intro w hSw
        (try dsimp only at hSw)
        (first | (go_simp; done) | (go_simp; with_reducible rfl))
      (try simp only [Act.put, List.getElem_toArray, List.getElem_cons_succ, List.getElem_cons_zero, List.setIfInBounds_toArray, List.set_cons_zero, List.set_cons_succ])
      refine wpAnyF_take (i := 13) (oi := _) (v := ?_) rfl (by kernel_rfl) (by kernel_rfl) (by kernel_rfl) (by kernel_rfl) (fun _ _ _ h => h) (Or.inl ⟨by rfl, ?_⟩) (by assumption) ?_
      rotate_left 1
      · intro w hSw
        (try dsimp only at hSw)
        (first | (go_simp; done) | (go_simp; with_reducible rfl))
      (try simp only [Act.put, List.getElem_toArray, List.getElem_cons_succ, List.getElem_cons_zero, List.setIfInBounds_toArray, List.set_cons_zero, List.set_cons_succ])
      refine wpAnyF_take (i := 14) (oi := _) (v := ?_) rfl (by kernel_rfl) (by kernel_rfl) (by kernel_rfl) (by kernel_rfl) (fun _ _ _ h => h) (Or.inl ⟨by rfl, ?_⟩) (by assumption) ?_
      rotate_left 1
      · intro w hSw
        (try dsimp only at hSw)
        (first | (go_simp; done) | (go_simp; with_reducible rfl))
      (try simp only [Act.put, List.getElem_toArray, List.getElem_cons_succ, List.getElem_cons_zero, List.setIfInBounds_toArray, List.set_cons_zero, List.set_cons_succ])
      refine wpAnyF_take (i := 15) (oi := _) (v := ?_) rfl (by kernel_rfl) (by kernel_rfl) (by kernel_rfl) (by kernel_rfl) (fun _ _ _ h => h) (Or.inl ⟨by rfl, ?_⟩) (by assumption) ?_
      rotate_left 1
      · intro w hSw
        (try dsimp only at hSw)
        (first | (go_simp; done) | (go_simp; with_reducible rfl))
      (try simp only [Act.put, List.getElem_toArray, List.getElem_cons_succ, List.getElem_cons_zero, List.setIfInBounds_toArray, List.set_cons_zero, List.set_cons_succ])
      refine wpAnyF_take (i := 16) (oi := _) (v := ?_) rfl (by kernel_rfl) (by kernel_rfl) (by kernel_rfl) (by kernel_rfl) (fun _ _ _ h => h) (Or.inl ⟨by rfl, ?_⟩) (by assumption) ?_
      rotate_left 1
      · intro w hSw
        (try dsimp only at hSw)
        (first | (go_simp; done) | (go_simp; with_reducible rfl))
      (try simp only [Act.put, List.getElem_toArray, List.getElem_cons_succ, List.getElem_cons_zero, List.setIfInBounds_toArray, List.set_cons_zero, List.set_cons_succ])
      refine wpAnyF_take (i := 17) (oi := _) (v := ?_) rfl (by kernel_rfl) (by kernel_rfl) (by kernel_rfl) (by kernel_rfl) (fun _ _ _ h => h) (Or.inl ⟨by rfl, ?_⟩) (by assumption) ?_
      rotate_left 1
      · intro w hSw
        (try dsimp only at hSw)
        (first | (go_simp; done) | (go_simp; with_reducible rfl))
      (try simp only [Act.put, List.getElem_toArray, List.getElem_cons_succ, List.getElem_cons_zero, List.setIfInBounds_toArray, List.set_cons_zero, List.set_cons_succ])
      refine wpAnyF_take (i := 18) (oi := _) (v := ?_) rfl (by kernel_rfl) (by kernel_rfl) (by kernel_rfl) (by kernel_rfl) (fun _ _ _ h => h) (Or.inl ⟨by rfl, ?_⟩) (by assumption) ?_
      rotate_left 1
      · intro w hSw
        (try dsimp only at hSw)
        (first | (go_simp; done) | (go_simp; with_reducible rfl))
      (try simp only [Act.put, List.getElem_toArray, List.getElem_cons_succ, List.getElem_cons_zero, List.setIfInBounds_toArray, List.set_cons_zero, List.set_cons_succ])
      refine wpAnyF_ready (rs := [19]) (by kernel_rfl) (by simp) ?_
      refine AllReadyF.cons (o := _) rfl (fun K hK => ?_) AllReadyF.nil
      go_simp
      refine hK.out _ _ (HKK.out) (fun hHeld19 => ?_)
      clear hK K
      (try simp only [Act.put, List.getElem_toArray, List.getElem_cons_succ, List.getElem_cons_zero, List.setIfInBounds_toArray, List.set_cons_zero, List.set_cons_succ])
      refine wpAnyF_ready (rs := [20]) (by kernel_rfl) (by simp) ?_
      refine AllReadyF.cons (o := _) rfl (fun K hK => ?_) AllReadyF.nil
      go_simp
      refine hK.out _ _ (HKK.out) (fun hHeld20 => ?_)
      clear hK K
      (try simp only [Act.put, List.getElem_toArray, List.getElem_cons_succ, List.getElem_cons_zero, List.setIfInBounds_toArray, List.set_cons_zero, List.set_cons_succ])
      refine wpAnyF_ready (rs := [21]) (by kernel_rfl) (by simp) ?_
      refine AllReadyF.last (o := _) rfl (by rfl) (fun K hK => ?_) AllReadyF.nil
      go_simp
      refine hK.out _ _ ?_
      clear hK K
      (try simp only [Act.put, List.getElem_toArray, List.getElem_cons_succ, List.getElem_cons_zero, List.setIfInBounds_toArray, List.set_cons_zero, List.set_cons_succ])
      refine wpAnyF_done (by kernel_rfl) ?_ _
      go_wp2
      go_roundw
      case rel => exact ⟨i + 1, rfl, li1, HST.out⟩
      case measure => simp [intOf]; omega

    · have HB0 : Hid (EncB w (stL ks lp N 0) wr) := Lib.hid ⟨hE.below, hE.z, hE.s.congr fun c hc => by unfold sqC; rw [if_pos (by omega)]⟩
      clear hE
      have hlt2 : ¬ (i : Int) < 16 := by omega
      go_wp2
      go_loopw [7] (fun k wr => ∃ n : Nat, k = .int .i64 (n : Int) ∧ 1 ≤ n ∧ n ≤ N + 1 ∧ EncB w (stL ks lp N (n - 1)) wr) (fun k _ => (N + 1 - intOf k).toNat)
      case atStart => exact ⟨1, rfl, by omega, by omega, HB0.out⟩
      case round =>
        obtain ⟨n, rfl, h1n, hnN0, hB⟩ := hrel
        clear HB0
        by_cases hnN9 : n ≤ N
        · obtain ⟨l, hll⟩ : ∃ l, l = stL ks lp N (n - 1) := ⟨_, rfl⟩
          have HLO : Hid (Aes.Ok l) := Lib.hid (by rw [hll]; exact stL_ok HKB.out HOK.out _)
          have kr : wr.cell? ⟨g, 513, none⟩ = some (.int .i64 (N : Int)) := (hB.below.cell (p := ⟨g, 513, none⟩) HK.out.lt).trans HK.out.rounds
          have krr : ∀ W, EncB w l W → W.cell? ⟨g, 513, none⟩ = some (.int .i64 (N : Int)) := fun W h => (h.below.cell (p := ⟨g, 513, none⟩) HK.out.lt).trans HK.out.rounds
          have HKR := Lib.hid krr
          rw [← hll] at hB
          have hnn : (n : Int) ≤ (N : Int) := by omega
          have hgt := hB.s.lt
          have HET : Hid (EncT w l (subL l) wr.heap.size (0 * 4 + 0) (wr.alloc (.cells y 101))) := Lib.hid ⟨hB.next ((Below.refl _ _).alloc (Nat.le_refl _) _), hgt, by rw [HY44.out]; exact Row.congr (f := sq []) (heap_alloc_new wr _) (sqP_zero _ _)⟩
          clear hB krr hgt
          go_wp2
          generalize wr.heap.size = gt at *
          generalize wr.alloc (.cells y 101) = w3 at *
          clear kr
          go_loopw [9] (fun v wr => ∃ r : Nat, v = .int .i64 (r : Int) ∧ r ≤ 4 ∧ EncT w l (subL l) gt (r * 4 + 0) wr) (fun v _ => (4 - intOf v).toNat)
          case atStart => exact ⟨0, rfl, by omega, HET.out⟩
          case round =>
            obtain ⟨r, rfl, hr, hO⟩ := hrel
            obtain ⟨wq0, rfl⟩ : ∃ wo : World, wo = wr := ⟨_, rfl⟩
            have HO := Lib.hid hO
            clear hO
            by_cases hlr : r < 4
            · have lr : (r : Int) < 4 := by omega
              go_wp2
              go_loopw [10] (fun v wr => ∃ k : Nat, v = .int .i64 (k : Int) ∧ k ≤ 4 ∧ EncT w l (subL l) gt (r * 4 + k) wr) (fun v _ => (4 - intOf v).toNat)
              case atStart => exact ⟨0, rfl, by omega, HO.out⟩
              case round =>
                obtain ⟨k, rfl, hk, hT⟩ := hrel
                clear HO
                by_cases hlk : k < 4
                · obtain ⟨q, hq⟩ : ∃ q, q = (k + r) % 4 := ⟨_, rfl⟩
                  have hql : q < 4 := by omega
                  have wq : IntKind.i64.wrap ((k : Int) + (r : Int)) = (k : Int) + (r : Int) := IntWalk.i64_in _ (by omega)
                  have tq : ((k : Int) + (r : Int)).tmod 4 = (q : Int) := by rw [Int.tmod_eq_emod_of_nonneg (by omega)]; omega
                  have lq : (q : Int) < 4 := by omega
                  have zq : 0 ≤ (q : Int) := by omega
                  have lk : (k : Int) < 4 := by omega
                  have zk : 0 ≤ (k : Int) := by omega
                  have zr : 0 ≤ (r : Int) := by omega
                  obtain ⟨a, ha⟩ : ∃ a, a = l.getD (4 * q + r) 0 := ⟨_, rfl⟩
                  have ba : a < 256 := by rw [ha]; exact HLO.out.byte _
                  obtain ⟨x, hx⟩ : ∃ x, x = Gf.sub a := ⟨_, rfl⟩
                  have hval : (subL l).getD (4 * k + r) 0 = x := by rw [subL_at k r hlk hlr, hx, ha, hq]
                  have HST := Lib.hid (EncT.step hlr hlk hval hT).drew
                  have k0 : wr.cell? ⟨w.heap.size + 1 + 1, r * 4 + q, none⟩ = some (.int .u8 (a : Int)) := by rw [ha, ← sq_at l hlr hql]; exact hT.b.s.cell (by omega)
                  have k1 : wr.cell? ⟨g, a, none⟩ = some (.int .u8 (x : Int)) := by rw [hx]; exact (hT.b.below.cell (p := ⟨g, a, none⟩) HK.out.lt).trans (HK.out.box a ba)
                  obtain ⟨old, hold⟩ : ∃ old, wr.cell? ⟨gt, r * 4 + k, none⟩ = some old := ⟨_, hT.t.cell (by omega)⟩
                  have hfr : wr.frozen? ⟨gt, r * 4 + k, none⟩ = false := hT.t.free _
                  have la : (a : Int) < 256 := by omega
                  have za : 0 ≤ (a : Int) := by omega
                  have HKK := Lib.hid (And.intro k0 k1)
                  have lk1 : k + 1 ≤ 4 := by omega
                  clear k0 k1 hT hval ha hx hq
                  go_wp2_with fail
                  refine wp_region_F (S := (fun W => W.cell? ⟨w.heap.size + 1 + 1, r * 4 + q, none⟩ = some (.int .u8 (a : Int)) ∧ W.cell? ⟨g, a, none⟩ = some (.int .u8 (x : Int)))) [17] (by kernel_rfl) (HKK.out) (fun hHeld => ?_)
                  refine wpAnyF_take (i := 0) (oi := _) (v := ?_) rfl (by kernel_rfl) (by kernel_rfl) (by kernel_rfl) (by kernel_rfl) (fun _ _ _ h => h) (Or.inl ⟨by rfl, ?_⟩) (by assumption) ?_
                  rotate_left 1
                  · intro w hSw
                    (try dsimp only at hSw)
                    (first | (go_simp; done) | (go_simp; with_reducible rfl))
                  (try simp only [Act.put, List.getElem_toArray, List.getElem_cons_succ, List.getElem_cons_zero, List.setIfInBounds_toArray, List.set_cons_zero, List.set_cons_succ])
                  refine wpAnyF_take (i := 1) (oi := _) (v := ?_) rfl (by kernel_rfl) (by kernel_rfl) (by kernel_rfl) (by kernel_rfl) (fun _ _ _ h => h) (Or.inl ⟨by rfl, ?_⟩) (by assumption) ?_
                  rotate_left 1
                  · intro w hSw
                    (try dsimp only at hSw)
                    (first | (go_simp; done) | (go_simp; with_reducible rfl))
                  (try simp only [Act.put, List.getElem_toArray, List.getElem_cons_succ, List.getElem_cons_zero, List.setIfInBounds_toArray, List.set_cons_zero, List.set_cons_succ])
                  refine wpAnyF_take (i := 2) (oi := _) (v := ?_) rfl (by kernel_rfl) (by kernel_rfl) (by kernel_rfl) (by kernel_rfl) (fun _ _ _ h => h) (Or.inl ⟨by rfl, ?_⟩) (by assumption) ?_
                  rotate_left 1
                  · intro w hSw
                    (try dsimp only at hSw)
                    (first | (go_simp; done) | (go_simp; with_reducible rfl))
                  (try simp only [Act.put, List.getElem_toArray, List.getElem_cons_succ, List.getElem_cons_zero, List.setIfInBounds_toArray, List.set_cons_zero, List.set_cons_succ])
                  refine wpAnyF_take (i := 3) (oi := _) (v := ?_) rfl (by kernel_rfl) (by kernel_rfl) (by kernel_rfl) (by kernel_rfl) (fun _ _ _ h => h) (Or.inl ⟨by rfl, ?_⟩) (by assumption) ?_
                  rotate_left 1
                  · intro w hSw
                    (try dsimp only at hSw)
                    (first | (go_simp; done) | (go_simp; with_reducible rfl))
                  (try simp only [Act.put, List.getElem_toArray, List.getElem_cons_succ, List.getElem_cons_zero, List.setIfInBounds_toArray, List.set_cons_zero, List.set_cons_succ])
                  refine wpAnyF_take (i := 4) (oi := _) (v := ?_) rfl (by kernel_rfl) (by kernel_rfl) (by kernel_rfl) (by kernel_rfl) (fun _ _ _ h => h) (Or.inl ⟨by rfl, ?_⟩) (by assumption) ?_
                  rotate_left 1
                  · intro w hSw
                    (try dsimp only at hSw)
                    (first | (go_simp; done) | (go_simp; with_reducible rfl))
                  (try simp only [Act.put, List.getElem_toArray, List.getElem_cons_succ, List.getElem_cons_zero, List.setIfInBounds_toArray, List.set_cons_zero, List.set_cons_succ])
                  refine wpAnyF_take (i := 5) (oi := _) (v := ?_) rfl (by kernel_rfl) (by kernel_rfl) (by kernel_rfl) (by kernel_rfl) (fun _ _ _ h => h) (Or.inl ⟨by rfl, ?_⟩) (by assumption) ?_
                  rotate_left 1
                  · intro w hSw
                    (try dsimp only at hSw)
                    (first | (go_simp; done) | (go_simp; with_reducible rfl))
                  (try simp only [Act.put, List.getElem_toArray, List.getElem_cons_succ, List.getElem_cons_zero, List.setIfInBounds_toArray, List.set_cons_zero, List.set_cons_succ])
                  refine wpAnyF_take (i := 6) (oi := _) (v := ?_) rfl (by kernel_rfl) (by kernel_rfl) (by kernel_rfl) (by kernel_rfl) (fun _ _ _ h => h) (Or.inl ⟨by rfl, ?_⟩) (by assumption) ?_
                  rotate_left 1
                  · intro w hSw
                    (try dsimp only at hSw)
                    (first | (go_simp; done) | (go_simp; with_reducible rfl))
                  (try simp only [Act.put, List.getElem_toArray, List.getElem_cons_succ, List.getElem_cons_zero, List.setIfInBounds_toArray, List.set_cons_zero, List.set_cons_succ])
                  refine wpAnyF_take (i := 7) (oi := _) (v := ?_) rfl (by kernel_rfl) (by kernel_rfl) (by kernel_rfl) (by kernel_rfl) (fun _ _ _ h => h) (Or.inl ⟨by rfl, ?_⟩) (by assumption) ?_
                  rotate_left 1
                  · intro w hSw
                    (try dsimp only at hSw)
                    (first | (go_simp; done) | (go_simp; with_reducible rfl))
                  (try simp only [Act.put, List.getElem_toArray, List.getElem_cons_succ, List.getElem_cons_zero, List.setIfInBounds_toArray, List.set_cons_zero, List.set_cons_succ])
                  refine wpAnyF_take (i := 8) (oi := _) (v := ?_) rfl (by kernel_rfl) (by kernel_rfl) (by kernel_rfl) (by kernel_rfl) (fun _ _ _ h => h) (Or.inl ⟨by rfl, ?_⟩) (by assumption) ?_
                  rotate_left 1
                  · intro w hSw
                    (try dsimp only at hSw)
                    (first | (go_simp; done) | (go_simp; with_reducible rfl))
                  (try simp only [Act.put, List.getElem_toArray, List.getElem_cons_succ, List.getElem_cons_zero, List.setIfInBounds_toArray, List.set_cons_zero, List.set_cons_succ])
                  refine wpAnyF_take (i := 9) (oi := _) (v := ?_) rfl (by kernel_rfl) (by kernel_rfl) (by kernel_rfl) (by kernel_rfl) (fun _ _ _ h => h) (Or.inl ⟨by rfl, ?_⟩) (by assumption) ?_
                  rotate_left 1
                  · intro w hSw
                    (try dsimp only at hSw)
                    (first | (go_simp; done) | (go_simp; with_reducible rfl))
                  (try simp only [Act.put, List.getElem_toArray, List.getElem_cons_succ, List.getElem_cons_zero, List.setIfInBounds_toArray, List.set_cons_zero, List.set_cons_succ])
                  refine wpAnyF_take (i := 10) (oi := _) (v := ?_) rfl (by kernel_rfl) (by kernel_rfl) (by kernel_rfl) (by kernel_rfl) (fun _ _ _ h => h) (Or.inl ⟨by rfl, ?_⟩) (by assumption) ?_
                  rotate_left 1
                  · intro w hSw
                    (try dsimp only at hSw)
                    (first | (go_simp; done) | (go_simp; with_reducible rfl))
                  (try simp only [Act.put, List.getElem_toArray, List.getElem_cons_succ, List.getElem_cons_zero, List.setIfInBounds_toArray, List.set_cons_zero, List.set_cons_succ])
                  refine wpAnyF_take (i := 11) (oi := _) (v := ?_) rfl (by kernel_rfl) (by kernel_rfl) (by kernel_rfl) (by kernel_rfl) (fun _ _ _ h => h) (Or.inl ⟨by rfl, ?_⟩) (by assumption) ?_
                  rotate_left 1
                  · intro w hSw
                    (try dsimp only at hSw)
                    (first | (go_simp; done) | (go_simp; with_reducible rfl))
                  (try simp only [Act.put, List.getElem_toArray, List.getElem_cons_succ, List.getElem_cons_zero, List.setIfInBounds_toArray, List.set_cons_zero, List.set_cons_succ])
                  refine wpAnyF_take (i := 12) (oi := _) (v := ?_) rfl (by kernel_rfl) (by kernel_rfl) (by kernel_rfl) (by kernel_rfl) (fun _ _ _ h => h) (Or.inl ⟨by rfl, ?_⟩) (by assumption) ?_
                  rotate_left 1
                  · intro w hSw
                    (try dsimp only at hSw)
                    (first | (go_simp; done) | (go_simp; with_reducible rfl))
                  (try simp only [Act.put, List.getElem_toArray, List.getElem_cons_succ, List.getElem_cons_zero, List.setIfInBounds_toArray, List.set_cons_zero, List.set_cons_succ])
                  refine wpAnyF_take (i := 13) (oi := _) (v := ?_) rfl (by kernel_rfl) (by kernel_rfl) (by kernel_rfl) (by kernel_rfl) (fun _ _ _ h => h) (Or.inl ⟨by rfl, ?_⟩) (by assumption) ?_
                  rotate_left 1
                  · intro w hSw
                    (try dsimp only at hSw)
                    (first | (go_simp; done) | (go_simp; with_reducible rfl))
                  (try simp only [Act.put, List.getElem_toArray, List.getElem_cons_succ, List.getElem_cons_zero, List.setIfInBounds_toArray, List.set_cons_zero, List.set_cons_succ])
                  refine wpAnyF_take (i := 14) (oi := _) (v := ?_) rfl (by kernel_rfl) (by kernel_rfl) (by kernel_rfl) (by kernel_rfl) (fun _ _ _ h => h) (Or.inl ⟨by rfl, ?_⟩) (by assumption) ?_
                  rotate_left 1
                  · intro w hSw
                    (try dsimp only at hSw)
                    (first | (go_simp; done) | (go_simp; with_reducible rfl))
                  (try simp only [Act.put, List.getElem_toArray, List.getElem_cons_succ, List.getElem_cons_zero, List.setIfInBounds_toArray, List.set_cons_zero, List.set_cons_succ])
                  refine wpAnyF_ready (rs := [15]) (by kernel_rfl) (by simp) ?_
                  refine AllReadyF.cons (o := _) rfl (fun K hK => ?_) AllReadyF.nil
                  go_simp
                  refine hK.out _ _ (HKK.out) (fun hHeld15 => ?_)
                  clear hK K
                  (try simp only [Act.put, List.getElem_toArray, List.getElem_cons_succ, List.getElem_cons_zero, List.setIfInBounds_toArray, List.set_cons_zero, List.set_cons_succ])
                  refine wpAnyF_ready (rs := [16]) (by kernel_rfl) (by simp) ?_
                  refine AllReadyF.cons (o := _) rfl (fun K hK => ?_) AllReadyF.nil
                  go_simp
                  refine hK.out _ _ (HKK.out) (fun hHeld16 => ?_)
                  clear hK K
                  (try simp only [Act.put, List.getElem_toArray, List.getElem_cons_succ, List.getElem_cons_zero, List.setIfInBounds_toArray, List.set_cons_zero, List.set_cons_succ])
                  refine wpAnyF_ready (rs := [17]) (by kernel_rfl) (by simp) ?_
                  refine AllReadyF.last (o := _) rfl (by rfl) (fun K hK => ?_) AllReadyF.nil
                  go_simp
                  refine hK.out _ _ ?_
                  clear hK K
                  (try simp only [Act.put, List.getElem_toArray, List.getElem_cons_succ, List.getElem_cons_zero, List.setIfInBounds_toArray, List.set_cons_zero, List.set_cons_succ])
                  refine wpAnyF_done (by kernel_rfl) ?_ _
                  go_wp2
                  go_roundw
                  case rel => exact ⟨k + 1, rfl, lk1, HST.out⟩
                  case measure => simp [intOf]; omega
                · have e : k = 4 := by omega
                  have HT : Hid (EncT w l (subL l) gt ((r + 1) * 4 + 0) wr) := Lib.hid (by rw [e] at hT; rw [show (r + 1) * 4 + 0 = r * 4 + 4 by omega]; exact hT)
                  clear hT e
                  have hlk2 : ¬ (k : Int) < 4 := by omega
                  go_wp2
                  go_roundw
                  case rel => exact ⟨r + 1, rfl, by omega, HT.out⟩
                  case measure => simp [intOf]; omega
            · have e4 : r = 4 := by omega
              have hO := HO.out
              rw [e4] at hO
              clear HO e4
              have hlr2 : ¬ (r : Int) < 4 := by omega
              have hTf : Row wq0 gt 101 (sq (subL l)) 16 := hO.t.congr (sqP_full _ _ (by omega))
              have kr2 := HKR.out wq0 hO.b
              by_cases hnN : n < N
              · have hnN1 : (n : Int) < (N : Int) := by omega
                obtain ⟨lt, hlt⟩ : ∃ l', l' = Aes.mix facM (subL l) := ⟨_, rfl⟩
                have HTO : Hid (Aes.Ok lt) := Lib.hid (by rw [hlt]; exact Aes.ok_mix _ (subL_ok HLO.out))
                obtain ⟨xs, hxs⟩ : ∃ z, z = rowV (sq (subL l)) 16 := ⟨_, rfl⟩
                obtain ⟨ys, hys⟩ : ∃ z, z = rowV (sq lt) 16 := ⟨_, rfl⟩
                have hr1 : wq0.heap[gt]? = some (.cells xs 101 (0, 0)) := by rw [hxs]; exact hTf
                have HR1 := Lib.hid hr1
                have HIX : Hid ((Try.prog.info? 101).map (·.size) = some xs.size) := Lib.hid (by rw [hxs]; exact info44 _)
                have HIY : Hid ((Try.prog.info? 101).map (·.size) = some ys.size) := Lib.hid (by rw [hys]; exact info44 _)
                have HXY : Hid (xs.size = ys.size) := Lib.hid (by rw [hxs, hys, rowV_size, rowV_size])
                have HONY : Hid (ys.all (·.oneCell') = true) := Lib.hid (by rw [hys]; exact one44 _)
                have HMIX : Hid (∀ W, RefK W g N ks bw cap → Calls Try.prog 49 #[.pointer (some ⟨g, 0, none⟩), .agg xs] W fun e w' => e = .returned (.agg ys) ∧ Below W.heap.size W w') := Lib.hid (fun W h => by
                  rw [hxs, hys, hlt]; exact refMix_any g N bw cap ks (subL l) W h (subL_ok HLO.out))
                have HKW := Lib.hid (HK.out.next hO.b.below)
                have hOb := hO.b
                have hge := hO.ge
                clear hTf hO hr1 hxs
                go_wp2_with (with_reducible refine wpList_load_row rfl 101 (.tmp 8) rfl _ rfl 101 _ _ _ HR1.out Try.underlying101 rfl HIX.out ?_)
                refine (HMIX.out _ HKW.out).mono ?_
                rintro e w5 ⟨rfl, hb5⟩
                have hr5 : w5.heap[gt]? = some (.cells xs 101 (0, 0)) := (hb5.block gt (blk_lt HR1.out)).trans HR1.out
                have HR5 := Lib.hid hr5
                have hOb5 := hOb.next hb5
                have HEK : Hid (EncK w lt (Aes.add lt (Aes.rk ks n)) l gt (0 * 4 + 0) (w5.setRow gt ys)) := Lib.hid (by
                  have hs := setRow_heap w5 gt xs ys _ _ hr5
                  refine ⟨below_setRow hOb5.below (by omega) ys, (setRow_other w5 gt _ ys (by omega)).trans hOb5.z, ?_, hge, by unfold Row; rw [← hys]; exact hs⟩
                  exact Row.congr (f := sq l) ((setRow_other w5 gt _ ys (by omega)).trans hOb5.s) (sqP_zero _ _))
                clear hb5 hr5 hOb hOb5 HR1 HMIX HKW hys
                go_wp2_with (with_reducible refine wpList_store_row rfl 101 (.tmp 8) (.tmp 81) rfl _ _ rfl rfl 101 _ HR5.out HIY.out HXY.out HONY.out ?_)
                clear HR5
                generalize w5.setRow gt ys = w6 at *
                go_loopw [11] (fun v wr => ∃ r : Nat, v = .int .i64 (r : Int) ∧ r ≤ 4 ∧ EncK w lt (Aes.add lt (Aes.rk ks n)) l gt (r * 4 + 0) wr) (fun v _ => (4 - intOf v).toNat)
                case atStart => exact ⟨0, rfl, by omega, HEK.out⟩
                case round =>
                  obtain ⟨r, rfl, hr, hO⟩ := hrel
                  obtain ⟨wq0, rfl⟩ : ∃ wo : World, wo = wr := ⟨_, rfl⟩
                  have HO := Lib.hid hO
                  clear hO
                  by_cases hlr : r < 4
                  · have lr : (r : Int) < 4 := by omega
                    go_wp2
                    go_loopw [12] (fun v wr => ∃ k : Nat, v = .int .i64 (k : Int) ∧ k ≤ 4 ∧ EncK w lt (Aes.add lt (Aes.rk ks n)) l gt (r * 4 + k) wr) (fun v _ => (4 - intOf v).toNat)
                    case atStart => exact ⟨0, rfl, by omega, HO.out⟩
                    case round =>
                      obtain ⟨k, rfl, hk, hE⟩ := hrel
                      clear HO
                      by_cases hlk : k < 4
                      · have w1 : IntKind.i64.wrap (4 * (n : Int)) = 4 * (n : Int) := IntWalk.i64_in _ (by omega)
                        have w2 : IntKind.i64.wrap (4 * (n : Int) + (k : Int)) = 4 * (n : Int) + (k : Int) := IntWalk.i64_in _ (by omega)
                        have w3 : (4 * (n : Int) + (k : Int)).toNat = 4 * n + k := by omega
                        have lw : 4 * (n : Int) + (k : Int) < 4 * ((N : Int) + 1) := by omega
                        have zw : 0 ≤ 4 * (n : Int) + (k : Int) := by omega
                        have lk : (k : Int) < 4 := by omega
                        have zk : 0 ≤ (k : Int) := by omega
                        have zr : 0 ≤ (r : Int) := by omega
                        have zn : 0 ≤ (n : Int) := by omega
                        obtain ⟨a, ha⟩ : ∃ a, a = lt.getD (4 * k + r) 0 := ⟨_, rfl⟩
                        obtain ⟨b, hb⟩ : ∃ a, a = ks.getD (16 * n + (4 * k + r)) 0 := ⟨_, rfl⟩
                        obtain ⟨x, hx⟩ : ∃ x, x = a ^^^ b := ⟨_, rfl⟩
                        have X1 : bits BinOp.xor IntKind.u8 (a : Int) (b : Int) = (x : Int) := by rw [hx]; exact xor8 (by rw [ha]; exact HTO.out.byte _) (by rw [hb]; exact HKB.out _)
                        have hval : (Aes.add lt (Aes.rk ks n)).getD (4 * k + r) 0 = x := by rw [add_at _ _ (by omega), hx, ha, hb]; rfl
                        have HST := Lib.hid (EncK.step hlr hlk hval hE).drew
                        have k0 : wr.cell? ⟨gt, r * 4 + k, none⟩ = some (.int .u8 (a : Int)) := by rw [ha, ← sq_at lt hlr hlk]; exact hE.t.cell (by omega)
                        have k1 : wr.cell? ⟨g, 512, none⟩ = some (.slice (some ⟨bw, 0, none⟩) (4 * (N + 1)) cap) := (hE.below.cell (p := ⟨g, 512, none⟩) HK.out.lt).trans HK.out.words
                        have k2 : wr.cell? ⟨bw, (4 * n + k) * 4 + r, none⟩ = some (.int .u8 (b : Int)) := by
                          rw [hb, show 16 * n + (4 * k + r) = (4 * n + k) * 4 + r by omega]; exact (hE.below.cell (p := ⟨bw, (4 * n + k) * 4 + r, none⟩) HK.out.lt2).trans (HK.out.at_ _ (by omega))
                        obtain ⟨old, hold⟩ : ∃ old, wr.cell? ⟨w.heap.size + 1 + 1, r * 4 + k, none⟩ = some old := ⟨_, hE.s.cell (by omega)⟩
                        have hfr : wr.frozen? ⟨w.heap.size + 1 + 1, r * 4 + k, none⟩ = false := hE.s.free _
                        have HKK := Lib.hid (And.intro k0 (And.intro k1 k2))
                        have lk1 : k + 1 ≤ 4 := by omega
                        clear k0 k1 k2 hE hval ha hb hx
                        go_wp2_with fail
                        refine wp_region_F (S := (fun W => W.cell? ⟨gt, r * 4 + k, none⟩ = some (.int .u8 (a : Int)) ∧ W.cell? ⟨g, 512, none⟩ = some (.slice (some ⟨bw, 0, none⟩) (4 * (N + 1)) cap) ∧ W.cell? ⟨bw, (4 * n + k) * 4 + r, none⟩ = some (.int .u8 (b : Int)))) [22] (by kernel_rfl) (HKK.out) (fun hHeld => ?_)
                        refine wpAnyF_take (i := 0) (oi := _) (v := ?_) rfl (by kernel_rfl) (by kernel_rfl) (by kernel_rfl) (by kernel_rfl) (fun _ _ _ h => h) (Or.inl ⟨by rfl, ?_⟩) (by assumption) ?_
                        rotate_left 1
                        · intro w hSw
                          (try dsimp only at hSw)
                          (first | (go_simp; done) | (go_simp; with_reducible rfl))
                        (try simp only [Act.put, List.getElem_toArray, List.getElem_cons_succ, List.getElem_cons_zero, List.setIfInBounds_toArray, List.set_cons_zero, List.set_cons_succ])
                        refine wpAnyF_take (i := 1) (oi := _) (v := ?_) rfl (by kernel_rfl) (by kernel_rfl) (by kernel_rfl) (by kernel_rfl) (fun _ _ _ h => h) (Or.inl ⟨by rfl, ?_⟩) (by assumption) ?_
                        rotate_left 1
                        · intro w hSw
                          (try dsimp only at hSw)
                          (first | (go_simp; done) | (go_simp; with_reducible rfl))
                        (try simp only [Act.put, List.getElem_toArray, List.getElem_cons_succ, List.getElem_cons_zero, List.setIfInBounds_toArray, List.set_cons_zero, List.set_cons_succ])
                        refine wpAnyF_take (i := 2) (oi := _) (v := ?_) rfl (by kernel_rfl) (by kernel_rfl) (by kernel_rfl) (by kernel_rfl) (fun _ _ _ h => h) (Or.inl ⟨by rfl, ?_⟩) (by assumption) ?_
                        rotate_left 1
                        · intro w hSw
                          (try dsimp only at hSw)
                          (first | (go_simp; done) | (go_simp; with_reducible rfl))
                        (try simp only [Act.put, List.getElem_toArray, List.getElem_cons_succ, List.getElem_cons_zero, List.setIfInBounds_toArray, List.set_cons_zero, List.set_cons_succ])
                        refine wpAnyF_take (i := 3) (oi := _) (v := ?_) rfl (by kernel_rfl) (by kernel_rfl) (by kernel_rfl) (by kernel_rfl) (fun _ _ _ h => h) (Or.inl ⟨by rfl, ?_⟩) (by assumption) ?_
                        rotate_left 1
                        · intro w hSw
                          (try dsimp only at hSw)
                          (first | (go_simp; done) | (go_simp; with_reducible rfl))
                        (try simp only [Act.put, List.getElem_toArray, List.getElem_cons_succ, List.getElem_cons_zero, List.setIfInBounds_toArray, List.set_cons_zero, List.set_cons_succ])
                        refine wpAnyF_take (i := 4) (oi := _) (v := ?_) rfl (by kernel_rfl) (by kernel_rfl) (by kernel_rfl) (by kernel_rfl) (fun _ _ _ h => h) (Or.inl ⟨by rfl, ?_⟩) (by assumption) ?_
                        rotate_left 1
                        · intro w hSw
                          (try dsimp only at hSw)
                          (first | (go_simp; done) | (go_simp; with_reducible rfl))
                        (try simp only [Act.put, List.getElem_toArray, List.getElem_cons_succ, List.getElem_cons_zero, List.setIfInBounds_toArray, List.set_cons_zero, List.set_cons_succ])
                        refine wpAnyF_take (i := 5) (oi := _) (v := ?_) rfl (by kernel_rfl) (by kernel_rfl) (by kernel_rfl) (by kernel_rfl) (fun _ _ _ h => h) (Or.inl ⟨by rfl, ?_⟩) (by assumption) ?_
                        rotate_left 1
                        · intro w hSw
                          (try dsimp only at hSw)
                          (first | (go_simp; done) | (go_simp; with_reducible rfl))
                        (try simp only [Act.put, List.getElem_toArray, List.getElem_cons_succ, List.getElem_cons_zero, List.setIfInBounds_toArray, List.set_cons_zero, List.set_cons_succ])
                        refine wpAnyF_take (i := 6) (oi := _) (v := ?_) rfl (by kernel_rfl) (by kernel_rfl) (by kernel_rfl) (by kernel_rfl) (fun _ _ _ h => h) (Or.inl ⟨by rfl, ?_⟩) (by assumption) ?_
                        rotate_left 1
                        · intro w hSw
                          (try dsimp only at hSw)
                          (first | (go_simp; done) | (go_simp; with_reducible rfl))
                        (try simp only [Act.put, List.getElem_toArray, List.getElem_cons_succ, List.getElem_cons_zero, List.setIfInBounds_toArray, List.set_cons_zero, List.set_cons_succ])
                        refine wpAnyF_take (i := 7) (oi := _) (v := ?_) rfl (by kernel_rfl) (by kernel_rfl) (by kernel_rfl) (by kernel_rfl) (fun _ _ _ h => h) (Or.inl ⟨by rfl, ?_⟩) (by assumption) ?_
                        rotate_left 1
                        · intro w hSw
                          (try dsimp only at hSw)
                          (first | (go_simp; done) | (go_simp; with_reducible rfl))
                        (try simp only [Act.put, List.getElem_toArray, List.getElem_cons_succ, List.getElem_cons_zero, List.setIfInBounds_toArray, List.set_cons_zero, List.set_cons_succ])
                        refine wpAnyF_take (i := 8) (oi := _) (v := ?_) rfl (by kernel_rfl) (by kernel_rfl) (by kernel_rfl) (by kernel_rfl) (fun _ _ _ h => h) (Or.inl ⟨by rfl, ?_⟩) (by assumption) ?_
                        rotate_left 1
                        · intro w hSw
                          (try dsimp only at hSw)
                          (first | (go_simp; done) | (go_simp; with_reducible rfl))
                        (try simp only [Act.put, List.getElem_toArray, List.getElem_cons_succ, List.getElem_cons_zero, List.setIfInBounds_toArray, List.set_cons_zero, List.set_cons_succ])
                        refine wpAnyF_take (i := 9) (oi := _) (v := ?_) rfl (by kernel_rfl) (by kernel_rfl) (by kernel_rfl) (by kernel_rfl) (fun _ _ _ h => h) (Or.inl ⟨by rfl, ?_⟩) (by assumption) ?_
                        rotate_left 1
                        · intro w hSw
                          (try dsimp only at hSw)
                          (first | (go_simp; done) | (go_simp; with_reducible rfl))
                        (try simp only [Act.put, List.getElem_toArray, List.getElem_cons_succ, List.getElem_cons_zero, List.setIfInBounds_toArray, List.set_cons_zero, List.set_cons_succ])
                        refine wpAnyF_take (i := 10) (oi := _) (v := ?_) rfl (by kernel_rfl) (by kernel_rfl) (by kernel_rfl) (by kernel_rfl) (fun _ _ _ h => h) (Or.inl ⟨by rfl, ?_⟩) (by assumption) ?_
                        rotate_left 1
                        · intro w hSw
                          (try dsimp only at hSw)
                          (first | (go_simp; done) | (go_simp; with_reducible rfl))
                        (try simp only [Act.put, List.getElem_toArray, List.getElem_cons_succ, List.getElem_cons_zero, List.setIfInBounds_toArray, List.set_cons_zero, List.set_cons_succ])
                        refine wpAnyF_take (i := 11) (oi := _) (v := ?_) rfl (by kernel_rfl) (by kernel_rfl) (by kernel_rfl) (by kernel_rfl) (fun _ _ _ h => h) (Or.inl ⟨by rfl, ?_⟩) (by assumption) ?_
                        rotate_left 1
                        · intro w hSw
                          (try dsimp only at hSw)
                          (first | (go_simp; done) | (go_simp; with_reducible rfl))
                        (try simp only [Act.put, List.getElem_toArray, List.getElem_cons_succ, List.getElem_cons_zero, List.setIfInBounds_toArray, List.set_cons_zero, List.set_cons_succ])
                        refine wpAnyF_take (i := 12) (oi := _) (v := ?_) rfl (by kernel_rfl) (by kernel_rfl) (by kernel_rfl) (by kernel_rfl) (fun _ _ _ h => h) (Or.inl ⟨by rfl, ?_⟩) (by assumption) ?_
                        rotate_left 1
                        · intro w hSw
                          (try dsimp only at hSw)
                          (first | (go_simp; done) | (go_simp; with_reducible rfl))
                        (try simp only [Act.put, List.getElem_toArray, List.getElem_cons_succ, List.getElem_cons_zero, List.setIfInBounds_toArray, List.set_cons_zero, List.set_cons_succ])
                        refine wpAnyF_take (i := 13) (oi := _) (v := ?_) rfl (by kernel_rfl) (by kernel_rfl) (by kernel_rfl) (by kernel_rfl) (fun _ _ _ h => h) (Or.inl ⟨by rfl, ?_⟩) (by assumption) ?_
                        rotate_left 1
                        · intro w hSw
                          (try dsimp only at hSw)
                          (first | (go_simp; done) | (go_simp; with_reducible rfl))
                        (try simp only [Act.put, List.getElem_toArray, List.getElem_cons_succ, List.getElem_cons_zero, List.setIfInBounds_toArray, List.set_cons_zero, List.set_cons_succ])
                        refine wpAnyF_take (i := 14) (oi := _) (v := ?_) rfl (by kernel_rfl) (by kernel_rfl) (by kernel_rfl) (by kernel_rfl) (fun _ _ _ h => h) (Or.inl ⟨by rfl, ?_⟩) (by assumption) ?_
                        rotate_left 1
                        · intro w hSw
                          (try dsimp only at hSw)
                          (first | (go_simp; done) | (go_simp; with_reducible rfl))
                        (try simp only [Act.put, List.getElem_toArray, List.getElem_cons_succ, List.getElem_cons_zero, List.setIfInBounds_toArray, List.set_cons_zero, List.set_cons_succ])
                        refine wpAnyF_take (i := 15) (oi := _) (v := ?_) rfl (by kernel_rfl) (by kernel_rfl) (by kernel_rfl) (by kernel_rfl) (fun _ _ _ h => h) (Or.inl ⟨by rfl, ?_⟩) (by assumption) ?_
                        rotate_left 1
                        · intro w hSw
                          (try dsimp only at hSw)
                          (first | (go_simp; done) | (go_simp; with_reducible rfl))
                        (try simp only [Act.put, List.getElem_toArray, List.getElem_cons_succ, List.getElem_cons_zero, List.setIfInBounds_toArray, List.set_cons_zero, List.set_cons_succ])
                        refine wpAnyF_take (i := 16) (oi := _) (v := ?_) rfl (by kernel_rfl) (by kernel_rfl) (by kernel_rfl) (by kernel_rfl) (fun _ _ _ h => h) (Or.inl ⟨by rfl, ?_⟩) (by assumption) ?_
                        rotate_left 1
                        · intro w hSw
                          (try dsimp only at hSw)
                          (first | (go_simp; done) | (go_simp; with_reducible rfl))
                        (try simp only [Act.put, List.getElem_toArray, List.getElem_cons_succ, List.getElem_cons_zero, List.setIfInBounds_toArray, List.set_cons_zero, List.set_cons_succ])
                        refine wpAnyF_take (i := 17) (oi := _) (v := ?_) rfl (by kernel_rfl) (by kernel_rfl) (by kernel_rfl) (by kernel_rfl) (fun _ _ _ h => h) (Or.inl ⟨by rfl, ?_⟩) (by assumption) ?_
                        rotate_left 1
                        · intro w hSw
                          (try dsimp only at hSw)
                          (first | (go_simp; done) | (go_simp; with_reducible rfl))
                        (try simp only [Act.put, List.getElem_toArray, List.getElem_cons_succ, List.getElem_cons_zero, List.setIfInBounds_toArray, List.set_cons_zero, List.set_cons_succ])
                        refine wpAnyF_take (i := 18) (oi := _) (v := ?_) rfl (by kernel_rfl) (by kernel_rfl) (by kernel_rfl) (by kernel_rfl) (fun _ _ _ h => h) (Or.inl ⟨by rfl, ?_⟩) (by assumption) ?_
                        rotate_left 1
                        · intro w hSw
                          (try dsimp only at hSw)
                          (first | (go_simp; done) | (go_simp; with_reducible rfl))
                        (try simp only [Act.put, List.getElem_toArray, List.getElem_cons_succ, List.getElem_cons_zero, List.setIfInBounds_toArray, List.set_cons_zero, List.set_cons_succ])
                        refine wpAnyF_take (i := 19) (oi := _) (v := ?_) rfl (by kernel_rfl) (by kernel_rfl) (by kernel_rfl) (by kernel_rfl) (fun _ _ _ h => h) (Or.inl ⟨by rfl, ?_⟩) (by assumption) ?_
                        rotate_left 1
                        · intro w hSw
                          (try dsimp only at hSw)
                          (first | (go_simp; done) | (go_simp; with_reducible rfl))
                        (try simp only [Act.put, List.getElem_toArray, List.getElem_cons_succ, List.getElem_cons_zero, List.setIfInBounds_toArray, List.set_cons_zero, List.set_cons_succ])
                        refine wpAnyF_ready (rs := [20]) (by kernel_rfl) (by simp) ?_
                        refine AllReadyF.cons (o := _) rfl (fun K hK => ?_) AllReadyF.nil
                        go_simp
                        refine hK.out _ _ (HKK.out) (fun hHeld20 => ?_)
                        clear hK K
                        (try simp only [Act.put, List.getElem_toArray, List.getElem_cons_succ, List.getElem_cons_zero, List.setIfInBounds_toArray, List.set_cons_zero, List.set_cons_succ])
                        refine wpAnyF_ready (rs := [21]) (by kernel_rfl) (by simp) ?_
                        refine AllReadyF.cons (o := _) rfl (fun K hK => ?_) AllReadyF.nil
                        go_simp
                        refine hK.out _ _ (HKK.out) (fun hHeld21 => ?_)
                        clear hK K
                        (try simp only [Act.put, List.getElem_toArray, List.getElem_cons_succ, List.getElem_cons_zero, List.setIfInBounds_toArray, List.set_cons_zero, List.set_cons_succ])
                        refine wpAnyF_ready (rs := [22]) (by kernel_rfl) (by simp) ?_
                        refine AllReadyF.last (o := _) rfl (by rfl) (fun K hK => ?_) AllReadyF.nil
                        go_simp
                        refine hK.out _ _ ?_
                        clear hK K
                        (try simp only [Act.put, List.getElem_toArray, List.getElem_cons_succ, List.getElem_cons_zero, List.setIfInBounds_toArray, List.set_cons_zero, List.set_cons_succ])
                        refine wpAnyF_done (by kernel_rfl) ?_ _
                        go_wp2
                        go_roundw
                        case rel => exact ⟨k + 1, rfl, lk1, HST.out⟩
                        case measure => simp [intOf]; omega
                      · have e : k = 4 := by omega
                        have HT : Hid (EncK w lt (Aes.add lt (Aes.rk ks n)) l gt ((r + 1) * 4 + 0) wr) := Lib.hid (by rw [e] at hE; rw [show (r + 1) * 4 + 0 = r * 4 + 4 by omega]; exact hE)
                        clear hE e
                        have hlk2 : ¬ (k : Int) < 4 := by omega
                        go_wp2
                        go_roundw
                        case rel => exact ⟨r + 1, rfl, by omega, HT.out⟩
                        case measure => simp [intOf]; omega
                  · have e4 : r = 4 := by omega
                    have hO := HO.out
                    rw [e4] at hO
                    clear HO e4
                    have hlr2 : ¬ (r : Int) < 4 := by omega
                    have HEB : Hid (EncB w (stL ks lp N n) wq0) := Lib.hid ⟨hO.below, hO.z, by rw [stL_mid h1n hnN, ← hll, ← hlt]; exact hO.s.congr (sqP_full _ _ (by omega))⟩
                    clear hO
                    go_wp2
                    go_roundw
                    case rel => exact ⟨n + 1, rfl, by omega, by omega, by rw [Nat.add_sub_cancel]; exact HEB.out⟩
                    case measure => simp [intOf]; omega
              · have hnN1 : ¬ (n : Int) < (N : Int) := by omega
                have hnE : n = N := by omega
                obtain ⟨lt, hlt⟩ : ∃ l', l' = subL l := ⟨_, rfl⟩
                have HTO : Hid (Aes.Ok lt) := Lib.hid (by rw [hlt]; exact subL_ok HLO.out)
                have HNE : Hid (stL ks lp N n = Aes.add (subL (stL ks lp N (n - 1))) (Aes.rk ks n)) := Lib.hid (by rw [hnE]; exact stL_end (by omega))
                have HEK : Hid (EncK w lt (Aes.add lt (Aes.rk ks n)) l gt (0 * 4 + 0) wq0) := Lib.hid ⟨hO.b.below, hO.b.z, Row.congr (f := sq l) hO.b.s (sqP_zero _ _), hO.ge, by rw [hlt]; exact hTf⟩
                clear hTf hO hnE
                go_wp2
                go_loopw [11] (fun v wr => ∃ r : Nat, v = .int .i64 (r : Int) ∧ r ≤ 4 ∧ EncK w lt (Aes.add lt (Aes.rk ks n)) l gt (r * 4 + 0) wr) (fun v _ => (4 - intOf v).toNat)
                case atStart => exact ⟨0, rfl, by omega, HEK.out⟩
                case round =>
                  obtain ⟨r, rfl, hr, hO⟩ := hrel
                  obtain ⟨wq0, rfl⟩ : ∃ wo : World, wo = wr := ⟨_, rfl⟩
                  have HO := Lib.hid hO
                  clear hO
                  by_cases hlr : r < 4
                  · have lr : (r : Int) < 4 := by omega
                    go_wp2
                    go_loopw [12] (fun v wr => ∃ k : Nat, v = .int .i64 (k : Int) ∧ k ≤ 4 ∧ EncK w lt (Aes.add lt (Aes.rk ks n)) l gt (r * 4 + k) wr) (fun v _ => (4 - intOf v).toNat)
                    case atStart => exact ⟨0, rfl, by omega, HO.out⟩
                    case round =>
                      obtain ⟨k, rfl, hk, hE⟩ := hrel
                      clear HO
                      by_cases hlk : k < 4
                      · have w1 : IntKind.i64.wrap (4 * (n : Int)) = 4 * (n : Int) := IntWalk.i64_in _ (by omega)
                        have w2 : IntKind.i64.wrap (4 * (n : Int) + (k : Int)) = 4 * (n : Int) + (k : Int) := IntWalk.i64_in _ (by omega)
                        have w3 : (4 * (n : Int) + (k : Int)).toNat = 4 * n + k := by omega
                        have lw : 4 * (n : Int) + (k : Int) < 4 * ((N : Int) + 1) := by omega
                        have zw : 0 ≤ 4 * (n : Int) + (k : Int) := by omega
                        have lk : (k : Int) < 4 := by omega
                        have zk : 0 ≤ (k : Int) := by omega
                        have zr : 0 ≤ (r : Int) := by omega
                        have zn : 0 ≤ (n : Int) := by omega
                        obtain ⟨a, ha⟩ : ∃ a, a = lt.getD (4 * k + r) 0 := ⟨_, rfl⟩
                        obtain ⟨b, hb⟩ : ∃ a, a = ks.getD (16 * n + (4 * k + r)) 0 := ⟨_, rfl⟩
                        obtain ⟨x, hx⟩ : ∃ x, x = a ^^^ b := ⟨_, rfl⟩
                        have X1 : bits BinOp.xor IntKind.u8 (a : Int) (b : Int) = (x : Int) := by rw [hx]; exact xor8 (by rw [ha]; exact HTO.out.byte _) (by rw [hb]; exact HKB.out _)
                        have hval : (Aes.add lt (Aes.rk ks n)).getD (4 * k + r) 0 = x := by rw [add_at _ _ (by omega), hx, ha, hb]; rfl
                        have HST := Lib.hid (EncK.step hlr hlk hval hE).drew
                        have k0 : wr.cell? ⟨gt, r * 4 + k, none⟩ = some (.int .u8 (a : Int)) := by rw [ha, ← sq_at lt hlr hlk]; exact hE.t.cell (by omega)
                        have k1 : wr.cell? ⟨g, 512, none⟩ = some (.slice (some ⟨bw, 0, none⟩) (4 * (N + 1)) cap) := (hE.below.cell (p := ⟨g, 512, none⟩) HK.out.lt).trans HK.out.words
                        have k2 : wr.cell? ⟨bw, (4 * n + k) * 4 + r, none⟩ = some (.int .u8 (b : Int)) := by
                          rw [hb, show 16 * n + (4 * k + r) = (4 * n + k) * 4 + r by omega]; exact (hE.below.cell (p := ⟨bw, (4 * n + k) * 4 + r, none⟩) HK.out.lt2).trans (HK.out.at_ _ (by omega))
                        obtain ⟨old, hold⟩ : ∃ old, wr.cell? ⟨w.heap.size + 1 + 1, r * 4 + k, none⟩ = some old := ⟨_, hE.s.cell (by omega)⟩
                        have hfr : wr.frozen? ⟨w.heap.size + 1 + 1, r * 4 + k, none⟩ = false := hE.s.free _
                        have HKK := Lib.hid (And.intro k0 (And.intro k1 k2))
                        have lk1 : k + 1 ≤ 4 := by omega
                        clear k0 k1 k2 hE hval ha hb hx
                        go_wp2_with fail
                        refine wp_region_F (S := (fun W => W.cell? ⟨gt, r * 4 + k, none⟩ = some (.int .u8 (a : Int)) ∧ W.cell? ⟨g, 512, none⟩ = some (.slice (some ⟨bw, 0, none⟩) (4 * (N + 1)) cap) ∧ W.cell? ⟨bw, (4 * n + k) * 4 + r, none⟩ = some (.int .u8 (b : Int)))) [22] (by kernel_rfl) (HKK.out) (fun hHeld => ?_)
                        refine wpAnyF_take (i := 0) (oi := _) (v := ?_) rfl (by kernel_rfl) (by kernel_rfl) (by kernel_rfl) (by kernel_rfl) (fun _ _ _ h => h) (Or.inl ⟨by rfl, ?_⟩) (by assumption) ?_
                        rotate_left 1
                        · intro w hSw
                          (try dsimp only at hSw)
                          (first | (go_simp; done) | (go_simp; with_reducible rfl))
                        (try simp only [Act.put, List.getElem_toArray, List.getElem_cons_succ, List.getElem_cons_zero, List.setIfInBounds_toArray, List.set_cons_zero, List.set_cons_succ])
                        refine wpAnyF_take (i := 1) (oi := _) (v := ?_) rfl (by kernel_rfl) (by kernel_rfl) (by kernel_rfl) (by kernel_rfl) (fun _ _ _ h => h) (Or.inl ⟨by rfl, ?_⟩) (by assumption) ?_
                        rotate_left 1
                        · intro w hSw
                          (try dsimp only at hSw)
                          (first | (go_simp; done) | (go_simp; with_reducible rfl))
                        (try simp only [Act.put, List.getElem_toArray, List.getElem_cons_succ, List.getElem_cons_zero, List.setIfInBounds_toArray, List.set_cons_zero, List.set_cons_succ])
                        refine wpAnyF_take (i := 2) (oi := _) (v := ?_) rfl (by kernel_rfl) (by kernel_rfl) (by kernel_rfl) (by kernel_rfl) (fun _ _ _ h => h) (Or.inl ⟨by rfl, ?_⟩) (by assumption) ?_
                        rotate_left 1
                        · intro w hSw
                          (try dsimp only at hSw)
                          (first | (go_simp; done) | (go_simp; with_reducible rfl))
                        (try simp only [Act.put, List.getElem_toArray, List.getElem_cons_succ, List.getElem_cons_zero, List.setIfInBounds_toArray, List.set_cons_zero, List.set_cons_succ])
                        refine wpAnyF_take (i := 3) (oi := _) (v := ?_) rfl (by kernel_rfl) (by kernel_rfl) (by kernel_rfl) (by kernel_rfl) (fun _ _ _ h => h) (Or.inl ⟨by rfl, ?_⟩) (by assumption) ?_
                        rotate_left 1
                        · intro w hSw
                          (try dsimp only at hSw)
                          (first | (go_simp; done) | (go_simp; with_reducible rfl))
                        (try simp only [Act.put, List.getElem_toArray, List.getElem_cons_succ, List.getElem_cons_zero, List.setIfInBounds_toArray, List.set_cons_zero, List.set_cons_succ])
                        refine wpAnyF_take (i := 4) (oi := _) (v := ?_) rfl (by kernel_rfl) (by kernel_rfl) (by kernel_rfl) (by kernel_rfl) (fun _ _ _ h => h) (Or.inl ⟨by rfl, ?_⟩) (by assumption) ?_
                        rotate_left 1
                        · intro w hSw
                          (try dsimp only at hSw)
                          (first | (go_simp; done) | (go_simp; with_reducible rfl))
                        (try simp only [Act.put, List.getElem_toArray, List.getElem_cons_succ, List.getElem_cons_zero, List.setIfInBounds_toArray, List.set_cons_zero, List.set_cons_succ])
                        refine wpAnyF_take (i := 5) (oi := _) (v := ?_) rfl (by kernel_rfl) (by kernel_rfl) (by kernel_rfl) (by kernel_rfl) (fun _ _ _ h => h) (Or.inl ⟨by rfl, ?_⟩) (by assumption) ?_
                        rotate_left 1
                        · intro w hSw
                          (try dsimp only at hSw)
                          (first | (go_simp; done) | (go_simp; with_reducible rfl))
                        (try simp only [Act.put, List.getElem_toArray, List.getElem_cons_succ, List.getElem_cons_zero, List.setIfInBounds_toArray, List.set_cons_zero, List.set_cons_succ])
                        refine wpAnyF_take (i := 6) (oi := _) (v := ?_) rfl (by kernel_rfl) (by kernel_rfl) (by kernel_rfl) (by kernel_rfl) (fun _ _ _ h => h) (Or.inl ⟨by rfl, ?_⟩) (by assumption) ?_
                        rotate_left 1
                        · intro w hSw
                          (try dsimp only at hSw)
                          (first | (go_simp; done) | (go_simp; with_reducible rfl))
                        (try simp only [Act.put, List.getElem_toArray, List.getElem_cons_succ, List.getElem_cons_zero, List.setIfInBounds_toArray, List.set_cons_zero, List.set_cons_succ])
                        refine wpAnyF_take (i := 7) (oi := _) (v := ?_) rfl (by kernel_rfl) (by kernel_rfl) (by kernel_rfl) (by kernel_rfl) (fun _ _ _ h => h) (Or.inl ⟨by rfl, ?_⟩) (by assumption) ?_
                        rotate_left 1
                        · intro w hSw
                          (try dsimp only at hSw)
                          (first | (go_simp; done) | (go_simp; with_reducible rfl))
                        (try simp only [Act.put, List.getElem_toArray, List.getElem_cons_succ, List.getElem_cons_zero, List.setIfInBounds_toArray, List.set_cons_zero, List.set_cons_succ])
                        refine wpAnyF_take (i := 8) (oi := _) (v := ?_) rfl (by kernel_rfl) (by kernel_rfl) (by kernel_rfl) (by kernel_rfl) (fun _ _ _ h => h) (Or.inl ⟨by rfl, ?_⟩) (by assumption) ?_
                        rotate_left 1
                        · intro w hSw
                          (try dsimp only at hSw)
                          (first | (go_simp; done) | (go_simp; with_reducible rfl))
                        (try simp only [Act.put, List.getElem_toArray, List.getElem_cons_succ, List.getElem_cons_zero, List.setIfInBounds_toArray, List.set_cons_zero, List.set_cons_succ])
                        refine wpAnyF_take (i := 9) (oi := _) (v := ?_) rfl (by kernel_rfl) (by kernel_rfl) (by kernel_rfl) (by kernel_rfl) (fun _ _ _ h => h) (Or.inl ⟨by rfl, ?_⟩) (by assumption) ?_
                        rotate_left 1
                        · intro w hSw
                          (try dsimp only at hSw)
                          (first | (go_simp; done) | (go_simp; with_reducible rfl))
                        (try simp only [Act.put, List.getElem_toArray, List.getElem_cons_succ, List.getElem_cons_zero, List.setIfInBounds_toArray, List.set_cons_zero, List.set_cons_succ])
                        refine wpAnyF_take (i := 10) (oi := _) (v := ?_) rfl (by kernel_rfl) (by kernel_rfl) (by kernel_rfl) (by kernel_rfl) (fun _ _ _ h => h) (Or.inl ⟨by rfl, ?_⟩) (by assumption) ?_
                        rotate_left 1
                        · intro w hSw
                          (try dsimp only at hSw)
                          (first | (go_simp; done) | (go_simp; with_reducible rfl))
                        (try simp only [Act.put, List.getElem_toArray, List.getElem_cons_succ, List.getElem_cons_zero, List.setIfInBounds_toArray, List.set_cons_zero, List.set_cons_succ])
                        refine wpAnyF_take (i := 11) (oi := _) (v := ?_) rfl (by kernel_rfl) (by kernel_rfl) (by kernel_rfl) (by kernel_rfl) (fun _ _ _ h => h) (Or.inl ⟨by rfl, ?_⟩) (by assumption) ?_
                        rotate_left 1
                        · intro w hSw
                          (try dsimp only at hSw)
                          (first | (go_simp; done) | (go_simp; with_reducible rfl))
                        (try simp only [Act.put, List.getElem_toArray, List.getElem_cons_succ, List.getElem_cons_zero, List.setIfInBounds_toArray, List.set_cons_zero, List.set_cons_succ])
                        refine wpAnyF_take (i := 12) (oi := _) (v := ?_) rfl (by kernel_rfl) (by kernel_rfl) (by kernel_rfl) (by kernel_rfl) (fun _ _ _ h => h) (Or.inl ⟨by rfl, ?_⟩) (by assumption) ?_
                        rotate_left 1
                        · intro w hSw
                          (try dsimp only at hSw)
                          (first | (go_simp; done) | (go_simp; with_reducible rfl))
                        (try simp only [Act.put, List.getElem_toArray, List.getElem_cons_succ, List.getElem_cons_zero, List.setIfInBounds_toArray, List.set_cons_zero, List.set_cons_succ])
                        refine wpAnyF_take (i := 13) (oi := _) (v := ?_) rfl (by kernel_rfl) (by kernel_rfl) (by kernel_rfl) (by kernel_rfl) (fun _ _ _ h => h) (Or.inl ⟨by rfl, ?_⟩) (by assumption) ?_
                        rotate_left 1
                        · intro w hSw
                          (try dsimp only at hSw)
                          (first | (go_simp; done) | (go_simp; with_reducible rfl))
                        (try simp only [Act.put, List.getElem_toArray, List.getElem_cons_succ, List.getElem_cons_zero, List.setIfInBounds_toArray, List.set_cons_zero, List.set_cons_succ])
                        refine wpAnyF_take (i := 14) (oi := _) (v := ?_) rfl (by kernel_rfl) (by kernel_rfl) (by kernel_rfl) (by kernel_rfl) (fun _ _ _ h => h) (Or.inl ⟨by rfl, ?_⟩) (by assumption) ?_
                        rotate_left 1
                        · intro w hSw
                          (try dsimp only at hSw)
                          (first | (go_simp; done) | (go_simp; with_reducible rfl))
                        (try simp only [Act.put, List.getElem_toArray, List.getElem_cons_succ, List.getElem_cons_zero, List.setIfInBounds_toArray, List.set_cons_zero, List.set_cons_succ])
                        refine wpAnyF_take (i := 15) (oi := _) (v := ?_) rfl (by kernel_rfl) (by kernel_rfl) (by kernel_rfl) (by kernel_rfl) (fun _ _ _ h => h) (Or.inl ⟨by rfl, ?_⟩) (by assumption) ?_
                        rotate_left 1
                        · intro w hSw
                          (try dsimp only at hSw)
                          (first | (go_simp; done) | (go_simp; with_reducible rfl))
                        (try simp only [Act.put, List.getElem_toArray, List.getElem_cons_succ, List.getElem_cons_zero, List.setIfInBounds_toArray, List.set_cons_zero, List.set_cons_succ])
                        refine wpAnyF_take (i := 16) (oi := _) (v := ?_) rfl (by kernel_rfl) (by kernel_rfl) (by kernel_rfl) (by kernel_rfl) (fun _ _ _ h => h) (Or.inl ⟨by rfl, ?_⟩) (by assumption) ?_
                        rotate_left 1
                        · intro w hSw
                          (try dsimp only at hSw)
                          (first | (go_simp; done) | (go_simp; with_reducible rfl))
                        (try simp only [Act.put, List.getElem_toArray, List.getElem_cons_succ, List.getElem_cons_zero, List.setIfInBounds_toArray, List.set_cons_zero, List.set_cons_succ])
                        refine wpAnyF_take (i := 17) (oi := _) (v := ?_) rfl (by kernel_rfl) (by kernel_rfl) (by kernel_rfl) (by kernel_rfl) (fun _ _ _ h => h) (Or.inl ⟨by rfl, ?_⟩) (by assumption) ?_
                        rotate_left 1
                        · intro w hSw
                          (try dsimp only at hSw)
                          (first | (go_simp; done) | (go_simp; with_reducible rfl))
                        (try simp only [Act.put, List.getElem_toArray, List.getElem_cons_succ, List.getElem_cons_zero, List.setIfInBounds_toArray, List.set_cons_zero, List.set_cons_succ])
                        refine wpAnyF_take (i := 18) (oi := _) (v := ?_) rfl (by kernel_rfl) (by kernel_rfl) (by kernel_rfl) (by kernel_rfl) (fun _ _ _ h => h) (Or.inl ⟨by rfl, ?_⟩) (by assumption) ?_
                        rotate_left 1
                        · intro w hSw
                          (try dsimp only at hSw)
                          (first | (go_simp; done) | (go_simp; with_reducible rfl))
                        (try simp only [Act.put, List.getElem_toArray, List.getElem_cons_succ, List.getElem_cons_zero, List.setIfInBounds_toArray, List.set_cons_zero, List.set_cons_succ])
                        refine wpAnyF_take (i := 19) (oi := _) (v := ?_) rfl (by kernel_rfl) (by kernel_rfl) (by kernel_rfl) (by kernel_rfl) (fun _ _ _ h => h) (Or.inl ⟨by rfl, ?_⟩) (by assumption) ?_
                        rotate_left 1
                        · intro w hSw
                          (try dsimp only at hSw)
                          (first | (go_simp; done) | (go_simp; with_reducible rfl))
                        (try simp only [Act.put, List.getElem_toArray, List.getElem_cons_succ, List.getElem_cons_zero, List.setIfInBounds_toArray, List.set_cons_zero, List.set_cons_succ])
                        refine wpAnyF_ready (rs := [20]) (by kernel_rfl) (by simp) ?_
                        refine AllReadyF.cons (o := _) rfl (fun K hK => ?_) AllReadyF.nil
                        go_simp
                        refine hK.out _ _ (HKK.out) (fun hHeld20 => ?_)
                        clear hK K
                        (try simp only [Act.put, List.getElem_toArray, List.getElem_cons_succ, List.getElem_cons_zero, List.setIfInBounds_toArray, List.set_cons_zero, List.set_cons_succ])
                        refine wpAnyF_ready (rs := [21]) (by kernel_rfl) (by simp) ?_
                        refine AllReadyF.cons (o := _) rfl (fun K hK => ?_) AllReadyF.nil
                        go_simp
                        refine hK.out _ _ (HKK.out) (fun hHeld21 => ?_)
                        clear hK K
                        (try simp only [Act.put, List.getElem_toArray, List.getElem_cons_succ, List.getElem_cons_zero, List.setIfInBounds_toArray, List.set_cons_zero, List.set_cons_succ])
                        refine wpAnyF_ready (rs := [22]) (by kernel_rfl) (by simp) ?_
                        refine AllReadyF.last (o := _) rfl (by rfl) (fun K hK => ?_) AllReadyF.nil
                        go_simp
                        refine hK.out _ _ ?_
                        clear hK K
                        (try simp only [Act.put, List.getElem_toArray, List.getElem_cons_succ, List.getElem_cons_zero, List.setIfInBounds_toArray, List.set_cons_zero, List.set_cons_succ])
                        refine wpAnyF_done (by kernel_rfl) ?_ _
                        go_wp2
                        go_roundw
                        case rel => exact ⟨k + 1, rfl, lk1, HST.out⟩
                        case measure => simp [intOf]; omega
                      · have e : k = 4 := by omega
                        have HT : Hid (EncK w lt (Aes.add lt (Aes.rk ks n)) l gt ((r + 1) * 4 + 0) wr) := Lib.hid (by rw [e] at hE; rw [show (r + 1) * 4 + 0 = r * 4 + 4 by omega]; exact hE)
                        clear hE e
                        have hlk2 : ¬ (k : Int) < 4 := by omega
                        go_wp2
                        go_roundw
                        case rel => exact ⟨r + 1, rfl, by omega, HT.out⟩
                        case measure => simp [intOf]; omega
                  · have e4 : r = 4 := by omega
                    have hO := HO.out
                    rw [e4] at hO
                    clear HO e4
                    have hlr2 : ¬ (r : Int) < 4 := by omega
                    have HEB : Hid (EncB w (stL ks lp N n) wq0) := Lib.hid ⟨hO.below, hO.z, by rw [HNE.out, ← hll, ← hlt]; exact hO.s.congr (sqP_full _ _ (by omega))⟩
                    clear hO
                    go_wp2
                    go_roundw
                    case rel => exact ⟨n + 1, rfl, by omega, by omega, by rw [Nat.add_sub_cancel]; exact HEB.out⟩
                    case measure => simp [intOf]; omega

        · have hE : EncB w (Aes.enc Gf.sub ks N lp) wr := by
            have e : n - 1 = N := by omega
            have := hB
            rw [e] at this
            unfold stL at this
            rw [if_neg (by omega)] at this
            exact this
          have kr : wr.cell? ⟨g, 513, none⟩ = some (.int .i64 (N : Int)) := (hB.below.cell (p := ⟨g, 513, none⟩) HK.out.lt).trans HK.out.rounds
          have hgt := hB.s.lt
          have hnN : ¬ (n : Int) ≤ (N : Int) := by omega
          have hlo : Aes.Ok (Aes.enc Gf.sub ks N lp) := Aes.ok_enc (fun c h => Gf.sub_lt h) HKB.out HOK.out
          obtain ⟨le, hle⟩ : ∃ l, l = Aes.enc Gf.sub ks N lp := ⟨_, rfl⟩
          rw [← hle] at hE hlo
          have HLE := Lib.hid hle
          clear hle
          have HEO : Hid (EncO w le wr.heap.size 0 (wr.alloc (.cells z 22))) := Lib.hid ⟨hE.next ((Below.refl _ _).alloc (Nat.le_refl _) _), hgt, by rw [HZ16.out]; exact Row.congr (heap_alloc_new wr _) (fun i _ => by unfold outF; rw [if_neg (by omega)])⟩
          have hgt2 : w.heap.size + 1 + 1 < wr.heap.size := hgt
          clear hB hE hgt
          go_wp2
          generalize wr.heap.size = go at *
          generalize wr.alloc (.cells z 22) = w7 at *
          clear hz
          go_loopw [14] (fun v wr => ∃ i : Nat, v = .int .i64 (i : Int) ∧ i ≤ 16 ∧ EncO w le go i wr) (fun v _ => (16 - intOf v).toNat)
          case atStart => exact ⟨0, rfl, by omega, HEO.out⟩
          case round =>
            obtain ⟨i, rfl, hi, hO⟩ := hrel
            clear HEO
            by_cases hlt : i < 16
            · obtain ⟨q, hq⟩ : ∃ q, q = i % 4 := ⟨_, rfl⟩
              obtain ⟨d, hd⟩ : ∃ q, q = i / 4 := ⟨_, rfl⟩
              have hqd : i = 4 * d + q := by omega
              have hql : q < 4 := by omega
              have hdl : d < 4 := by omega
              have tq : (i : Int).tmod 4 = (q : Int) := by rw [Int.tmod_eq_emod_of_nonneg (by omega)]; omega
              have td : (i : Int).tdiv 4 = (d : Int) := by rw [Int.tdiv_eq_ediv_of_nonneg (by omega)]; omega
              have tq2 : (i : Int) % 4 = (q : Int) := by omega
              have td2 : (i : Int) / 4 = (d : Int) := by omega
              have lq : (q : Int) < 4 := by omega
              have zq : 0 ≤ (q : Int) := by omega
              have ld : (d : Int) < 4 := by omega
              have zd : 0 ≤ (d : Int) := by omega
              have wd : IntKind.i64.wrap (d : Int) = (d : Int) := IntWalk.i64_in _ (by omega)
              have li : (i : Int) < 16 := by omega
              have zi : 0 ≤ (i : Int) := by omega
              obtain ⟨x, hx⟩ : ∃ x, x = le.getD i 0 := ⟨_, rfl⟩
              have k0 : wr.cell? ⟨w.heap.size + 1 + 1, q * 4 + d, none⟩ = some (.int .u8 (x : Int)) := by rw [hx, hqd, ← sq_at le hql hdl]; exact hO.b.s.cell (by omega)
              obtain ⟨old, hold⟩ : ∃ old, wr.cell? ⟨go, i, none⟩ = some old := ⟨_, hO.o.cell hlt⟩
              have hfr : wr.frozen? ⟨go, i, none⟩ = false := hO.o.free _
              have HST := Lib.hid (EncO.step hlt hx.symm hO)
              clear hO hx hqd hq hd
              go_wp2
              go_roundw
              case rel => exact ⟨i + 1, rfl, by omega, HST.out⟩
              case measure => simp [intOf]; omega
            · have e : i = 16 := by omega
              have hO' := hO
              rw [e] at hO'
              have hlt2 : ¬ (i : Int) < 16 := by omega
              obtain ⟨ye, hye⟩ : ∃ z, z = rowV (bF le) 16 := ⟨_, rfl⟩
              have ho : wr.heap[go]? = some (.cells ye 22 (0, 0)) := by rw [hye]; exact Row.congr hO'.o (fun i hi => by unfold outF; rw [if_pos hi])
              have hzr : wr.heap[w.heap.size + 1]? = some (.cells z 22 (0, 0)) := by rw [HZ16.out]; exact hO'.b.z
              have HHO := Lib.hid ho
              have HZR := Lib.hid hzr
              have HIY : Hid ((Try.prog.info? 22).map (·.size) = some ye.size) := Lib.hid (by rw [hye]; exact info16 _)
              have HZY : Hid (z.size = ye.size) := Lib.hid (by rw [hye, HZ16.out, rowV_size, rowV_size])
              have HONY : Hid (ye.all (·.oneCell') = true) := Lib.hid (by rw [hye]; exact one_row _ _)
              have HX := Lib.hid (setRow_heap wr _ _ ye _ _ hzr)
              have HB := Lib.hid (below_setRow (g := w.heap.size + 1) hO'.b.below (by omega) ye)
              have HYE := Lib.hid hye
              clear hO hO' ho hzr hye e
              go_wp2_with (first
                | (with_reducible refine wpList_load_row rfl 22 (.tmp 13) rfl _ rfl 22 _ _ _ HHO.out Try.underlying22 rfl HIY.out ?_)
                | (with_reducible refine wpList_store_row rfl 22 (.tmp 4) (.tmp 125) rfl _ _ rfl rfl 22 _ HZR.out HIY.out HZY.out HONY.out ?_))
              exact bodyPost_ret (v := .agg ye) (results_cell_row rfl _ _ _ 22 _ (0, 0) _ rfl HX.out Try.underlying22 rfl HIY.out) rfl ⟨by rw [HYE.out, HLE.out], HB.out⟩

end Go.Proofs.Ytplapepgedagoaa
