/-
  Apply of the document's counter mode.
-/
import Derived.Test.YtplapepgedagoaaRefH
import Derived.Test.YtplapepgedagoaaRefN
import Derived.Test.YtplapepgedagoaaCtrZ
namespace Go.Proofs.Ytplapepgedagoaa
open Go.RowKit Go
set_option linter.unusedVariables false
set_option linter.unusedSimpArgs false
attribute [local irreducible] Gf.inv Gf.tm Gf.pw Gf.spread Gf.sub Gf.boxAt Gf.bk Gf.rm Gf.bit
theorem ref_made {n N : Nat} {key ks : List Nat} (h : (n = 16 ∧ N = 10) ∨ (n = 32 ∧ N = 14)) (hks : ks = Aes.sch Gf.sub key (n / 4) (4 * (N + 1))) (b o c : Nat) (w : World) (hs : BS w w.heap.size (some ⟨b, o, none⟩) n c key) :
    Calls Try.prog 15 #[.slice (some ⟨b, o, none⟩) n c] w fun e w' => ∃ v, e = .returned (.pointer (some ⟨w.heap.size, 0, none⟩)) ∧ RefS w w.heap.size (twF 256) v (N : Int) (4 * (N + 1)) ks w' := by
  have hr := refNew_any (A := none) (n / 4) n (4 * (N + 1)) c (by omega) (by omega) (by omega) b o key w hs
  have e : ((n / 4 : Nat) : Int) + 6 = (N : Int) := by omega
  rw [e, ← hks] at hr
  exact hr
def curL (ks : List Nat) (N e b i : Nat) : List Nat := if i = 0 then z16 else lane ks N e b ((i - 1) / 16)
def outL (ks l : List Nat) (N e b i : Nat) : List Nat := (List.range i).map fun j => l.getD j 0 ^^^ strm ks N e b j
theorem outL_len (ks l : List Nat) (N e b i : Nat) : (outL ks l N e b i).length = i := by simp [outL]
theorem outL_snoc (ks l : List Nat) (N e b i : Nat) : outL ks l N e b (i + 1) = outL ks l N e b i ++ [l.getD i 0 ^^^ strm ks N e b i] := by
  unfold outL
  rw [List.range_succ, List.map_append]; rfl
theorem outL_all (ks l : List Nat) (N e b : Nat) : outL ks l N e b l.length = xorL l (stmL ks N e b l.length) := by
  unfold outL xorL
  rw [stmL_len, Nat.min_self]
  refine List.map_congr_left fun i hi => ?_
  have hlt := List.mem_range.mp hi
  unfold stmL
  rw [getD_map_range, if_pos hlt]
theorem lane_ok {ks : List Nat} {N e b q : Nat} (hks : ∀ j, ks.getD j 0 < 256) : Aes.Ok (lane ks N e b q) := Aes.ok_enc (fun c h => Gf.sub_lt h) hks ⟨ctrL_len e b q, fun j => ctrL_byte e b q j⟩
structure AppS (w : World) (v : Value) (sl ol : List Nat) (W : World) : Prop where
  below : Below w.heap.size w W
  s : Row W w.heap.size 22 (bF sl) 16
  own : Own W (w.heap.size + 1) v ol
theorem AppS.next {w W W' : World} {v : Value} {sl ol : List Nat} (h : AppS w v sl ol W) (hb : Below W.heap.size W W') : AppS w v sl ol W' :=
  ⟨h.below.trans (hb.mono h.below.size), h.s.below hb h.s.lt, h.own.below hb⟩
theorem AppS.fill {w W : World} {v : Value} {sl ol sl' : List Nat} (h : AppS w v sl ol W) : AppS w v sl' ol (W.setRow w.heap.size (rowV (bF sl') 16)) :=
  ⟨below_setRow h.below (Nat.le_refl _) _, setRow_heap W _ _ _ _ _ h.s, h.own.keep fun g hg => setRow_other W _ g _ (by have := (h.own.lt hg).1; omega)⟩
theorem AppS.app {w W W' : World} {v v' : Value} {sl ol ol' : List Nat} (h : AppS w v sl ol W) (hb : Below (w.heap.size + 1) W W') (ho : Own W' (w.heap.size + 1) v' ol') : AppS w v' sl ol' W' :=
  ⟨h.below.trans (hb.mono (by omega)), h.s.below hb (by omega), ho⟩
set_option maxHeartbeats 4000000 in
set_option maxRecDepth 100000 in
theorem refApply_any (g N bw cap e b n c : Nat) (A : Option Addr) (l ks : List Nat) (w : World) (hn : n ≤ 300) (he : e < 2 ^ 64) (hb : b < 4294967296) (hK : RefK w g N ks bw cap) (hks : ∀ j, ks.getD j 0 < 256) (hN : 1 ≤ N ∧ N ≤ 14) (hs : BS w w.heap.size A n c l) :
    Calls Try.prog 21 #[.pointer (some ⟨g, 0, none⟩), .int .u64 (e : Int), .int .u32 (b : Int), .slice A n c] w (GivesTo w n (xorL l (stmL ks N e b n))) := by
  have hz := zero16
  have hlen := hs.len
  have hby := hs.byte
  have HALL : Hid (outL ks l N e b n = xorL l (stmL ks N e b n)) := Lib.hid (by rw [← hlen]; exact outL_all ks l N e b)
  have H0 : Hid (AppS w (.slice none 0 0) (curL ks N e b 0) (outL ks l N e b 0) (w.alloc (.cells (rowV (bF z16) 16) 22))) := Lib.hid ⟨(Below.refl _ _).alloc (Nat.le_refl _) _, heap_alloc_new w _, Own.nil _ _⟩
  have HS := Lib.hid hs
  have HBY := Lib.hid hby
  have HK := Lib.hid hK
  have HKS := Lib.hid hks
  have HCT := Lib.hid (fun q (hq : q < 65536) W => refCounter_any e b q he hb hq W)
  have HEN : Hid (∀ q W, RefK W g N ks bw cap → Calls Try.prog 16 #[.pointer (some ⟨g, 0, none⟩), .agg (rowV (bF (ctrL e b q)) 16)] W fun en w' => en = .returned (.agg (rowV (bF (lane ks N e b q)) 16)) ∧ Below W.heap.size W w') := Lib.hid (fun q W h => refEncrypt_any g N bw cap ks (ctrL e b q) W h ⟨ctrL_len e b q, fun j => ctrL_byte e b q j⟩ hks hN)
  have hcap := hs.cap
  have hcc1 := hcap.1
  have hcc2 := hcap.2
  have HIY : Hid (∀ sl, (Try.prog.info? 22).map (·.size) = some (rowV (bF sl) 16).size) := Lib.hid info16
  have HON : Hid (∀ sl, (rowV (bF sl) 16).all (·.oneCell') = true) := Lib.hid (fun sl => one_row sl 16)
  obtain ⟨zz, hzz⟩ : ∃ z, z = rowV (bF z16) 16 := ⟨_, rfl⟩
  rw [← hzz] at hz H0
  clear hs hK hks hN hby hzz hcap he hb hlen
  go_enter Try.func21, Try.ntmps21
  go_wp2
  clear hz
  go_loopw [9, 15] (fun v k wr => ∃ i : Nat, k = .int .i64 (i : Int) ∧ i ≤ n ∧ AppS w v (curL ks N e b i) (outL ks l N e b i) wr) (fun _ k _ => (n - intOf k).toNat)
  case atStart => exact ⟨0, rfl, by omega, H0.out⟩
  case round =>
    obtain ⟨i, rfl, hi, hA⟩ := hrel
    clear H0
    by_cases hlt : i < n
    · obtain ⟨bb, o, rfl, hbb, hcell⟩ := HS.out.at_ (by omega)
      obtain ⟨x, hx⟩ : ∃ x, x = l.getD i 0 := ⟨_, rfl⟩
      have bx : x < 256 := by rw [hx]; exact HBY.out i
      have k0 : wr.cell? ⟨bb, o + i, none⟩ = some (.int .u8 (x : Int)) := by rw [hx]; exact (hA.below.cell (p := ⟨bb, o + i, none⟩) hbb).trans (hcell i hlt)
      obtain ⟨q, hq⟩ : ∃ q, q = i / 16 := ⟨_, rfl⟩
      obtain ⟨y, hy⟩ : ∃ y, y = strm ks N e b i := ⟨_, rfl⟩
      have by_ : y < 256 := by rw [hy]; exact strm_byte HKS.out i
      obtain ⟨t, ht⟩ : ∃ t, t = x ^^^ y := ⟨_, rfl⟩
      have X1 : bits BinOp.xor IntKind.u8 (x : Int) (y : Int) = (t : Int) := by rw [ht]; exact xor8 bx by_
      have hnext : curL ks N e b (i + 1) = lane ks N e b q := by unfold curL; rw [if_neg (by omega), Nat.add_sub_cancel, hq]
      have HOUT : Hid (outL ks l N e b (i + 1) = outL ks l N e b i ++ [t]) := Lib.hid (by rw [outL_snoc, ← hx, ← hy, ht])
      have HOL : Hid ((outL ks l N e b i).length = i) := Lib.hid (outL_len _ _ _ _ _ _)
      have HNX := Lib.hid hnext
      have li : (i : Int) < (n : Int) := by omega
      have td : (i : Int) / 16 = (q : Int) := by omega
      have hq2 : q < 65536 := by omega
      clear hcell hx ht hnext
      by_cases h0 : i % 16 = 0
      · have m0 : (i : Int) % 16 = 0 := by omega
        have hyl : (lane ks N e b q).getD 0 0 = y := by rw [hy, strm, hq, h0]
        have HYL := Lib.hid hyl
        have HA := Lib.hid hA
        clear hy hyl hA hq h0
        go_wp2_with fail
        refine (HCT.out q hq2 _).mono ?_
        rintro en w2 ⟨rfl, hb2⟩
        have HA2 := Lib.hid (HA.out.next hb2)
        clear hb2
        go_wp2_with fail
        refine (HEN.out q _ (HK.out.next HA2.out.below)).mono ?_
        rintro en w3 ⟨rfl, hb3⟩
        have HA3 := Lib.hid (HA2.out.next hb3)
        have HR3 := Lib.hid HA3.out.s
        have HSZ : Hid ((rowV (bF (curL ks N e b i)) 16).size = (rowV (bF (lane ks N e b q)) 16).size) := Lib.hid (by rw [rowV_size, rowV_size])
        have HA4 : Hid (AppS w u9 (lane ks N e b q) (outL ks l N e b i) (w3.setRow w.heap.size (rowV (bF (lane ks N e b q)) 16))) := Lib.hid HA3.out.fill
        unfold Row at HR3
        have hIY := Lib.hid (HIY.out (lane ks N e b q))
        have hON := Lib.hid (HON.out (lane ks N e b q))
        have k1 : (w3.setRow w.heap.size (rowV (bF (lane ks N e b q)) 16)).cell? ⟨w.heap.size, 0, none⟩ = some (.int .u8 (y : Int)) := by rw [← HYL.out]; exact HA4.out.s.cell (by omega)
        have k9 := HA4.out.s.free 0
        generalize hW4 : w3.setRow w.heap.size (rowV (bF (lane ks N e b q)) 16) = w4 at *
        have HW4 := Lib.hid hW4
        generalize rowV (bF (lane ks N e b q)) 16 = xs at *
        clear hb3 hW4
        have hB : w.heap.size + 1 ≤ w4.heap.size := HA4.out.s.lt
        have hown := HA4.out.own
        have hol : (outL ks l N e b i).length < 1000000000 := by rw [HOL.out]; omega
        go_wp2_with (first
          | (with_reducible refine wpList_store_row rfl 22 (.tmp 10) (.tmp 29) rfl _ _ rfl rfl 22 _ HR3.out hIY.out HSZ.out hON.out ?_; rw [HW4.out])
          | (at_builtin; refine wp_app _ rfl _ _ rfl (w.heap.size + 1) u9 (outL ks l N e b i) _ t rfl hown rfl rfl hol hB ?_; intro v' w5 hown5 hb5))
        have HA5 : Hid (AppS w v' (curL ks N e b (i + 1)) (outL ks l N e b (i + 1)) w5) := Lib.hid (by rw [HNX.out, HOUT.out]; exact HA4.out.app hb5 hown5)
        clear hown5 hb5 hown
        go_wp2
        go_roundw
        case rel => exact ⟨i + 1, rfl, by omega, HA5.out⟩
        case measure => simp [intOf]; omega
      · obtain ⟨r, hr⟩ : ∃ r, r = i % 16 := ⟨_, rfl⟩
        have m0 : (i : Int) % 16 = (r : Int) := by omega
        have m1 : ((r : Int) == 0) = false := by rw [beq_eq_false_iff_ne]; omega
        have lr : (r : Int) < 16 := by omega
        have zr : 0 ≤ (r : Int) := by omega
        have hcur : curL ks N e b i = lane ks N e b q := by unfold curL; rw [if_neg (by omega), hq, show (i - 1) / 16 = i / 16 by omega]
        rw [hcur] at hA
        have k1 : wr.cell? ⟨w.heap.size, r, none⟩ = some (.int .u8 (y : Int)) := by
          rw [hA.s.cell (show r < 16 by omega), hy, strm, hr, hq]; rfl
        have HA4 := Lib.hid hA
        clear hy hA hq h0 hcur hr
        have hB : w.heap.size + 1 ≤ wr.heap.size := HA4.out.s.lt
        have hown := HA4.out.own
        have hol : (outL ks l N e b i).length < 1000000000 := by rw [HOL.out]; omega
        go_wp2_with (first
          | (at_builtin; refine wp_app _ rfl _ _ rfl (w.heap.size + 1) u9 (outL ks l N e b i) _ t rfl hown rfl rfl hol hB ?_; intro v' w5 hown5 hb5))
        have HA5 : Hid (AppS w v' (curL ks N e b (i + 1)) (outL ks l N e b (i + 1)) w5) := Lib.hid (by rw [HNX.out, HOUT.out]; exact HA4.out.app hb5 hown5)
        clear hown5 hb5 hown
        go_wp2
        go_roundw
        case rel => exact ⟨i + 1, rfl, by omega, HA5.out⟩
        case measure => simp [intOf]; omega
    · have e9 : i = n := by omega
      rw [e9] at hA
      rw [HALL.out] at hA
      have hby2 : ∀ j, (xorL l (stmL ks N e b n)).getD j 0 < 256 := fun j => xorL_byte HBY.out (fun j => stmL_byte HKS.out j) j
      obtain ⟨A3, c3, hv3, hbs3⟩ := hA.own.bs hby2
      have hl3 : (xorL l (stmL ks N e b n)).length = n := by rw [← HALL.out, outL_len]
      rw [hl3] at hv3 hbs3
      have HF : Hid (GivesTo w n (xorL l (stmL ks N e b n)) (.returned (.slice A3 n c3)) wr) := Lib.hid ⟨A3, c3, rfl, hA.below, hbs3⟩
      have hlt2 : ¬ (i : Int) < (n : Int) := by omega
      subst hv3
      clear hA hbs3 hl3 e9 hby2
      go_wp2
      go_ret
      exact HF.out
end Go.Proofs.Ytplapepgedagoaa
