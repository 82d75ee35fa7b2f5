/-
  The example of chapter 5.
-/
import Derived.Test.YtplapepgedagoaaAesQ
import Derived.Test.YtplapepgedagoaaAesI
namespace Go.Proofs.Ytplapepgedagoaa
open Go.RowKit Go
set_option linter.unusedVariables false
attribute [local irreducible] Gf.inv Gf.tm Gf.pw Gf.spread Gf.sub Gf.boxAt Gf.bk Gf.rm Gf.bit
def k0 : List Nat := List.range 16
def x0 : List Nat := [0x69, 0xC4, 0xE0, 0xD8, 0x6A, 0x7B, 0x04, 0x30, 0xD8, 0xCD, 0xB7, 0x80, 0x70, 0xB4, 0xC5, 0x5A]
theorem k0_is : k0 = Aes.key0 := by decide
theorem k0_byte (i : Nat) : k0.getD i 0 < 256 := by
  unfold k0
  rw [List.getD_eq_getElem?_getD]
  by_cases h : i < 16
  · rw [List.getElem?_range h]; simp; omega
  · rw [List.getElem?_eq_none (by simp; omega)]; simp
theorem p0_ok : Aes.Ok Aes.plain0 := ⟨rfl, fun i => by
  by_cases h : i < 16
  · have : ∀ j : Fin 16, Aes.plain0.getD j 0 < 256 := by decide
    exact this ⟨i, h⟩
  · rw [List.getD_eq_getElem?_getD, List.getElem?_eq_none (by show 16 ≤ i; omega)]; simp⟩
theorem aw_enc : Aes.enc Gf.sub (Aes.sch Gf.sub k0 4 44) 10 Aes.plain0 = x0 := by
  rw [Aes.enc_congr (g := Aes.boxT) (fun c h => Aes.sub_box h) (fun c h => Gf.sub_lt h) (fun i => Aes.sch_byte (fun c h => Gf.sub_lt h) k0_byte _ _) p0_ok]
  rw [Aes.sch_congr (g := Aes.boxT) (fun c h => Aes.sub_box h) (fun c h => Gf.sub_lt h) k0_byte, k0_is]
  exact Aes.example_T
/-- one byte is appended to a slice of any type of bytes -/
theorem wp_app_t (ty : TypeId) (hty : Try.prog.underlying ty = some (.slice 5)) {ops : Array Oper} {rest : List Oper} {o : Oper} {a : Act} {Q : Exit → Act → World → Prop} (W : World) (hgd : o.guard = none) (s x : Operand)
    (ho : o.op = .call { callee := .builtin .append, args := #[s, x], argTypes := #[ty, ty] })
    (B : Nat) (v : Value) (l : List Nat) (z : Int) (b : Nat) (hs : a.eval s = v) (hown : Own W B v l)
    (hx : a.eval x = .slice (some ⟨W.heap.size, 0, none⟩) 1 1) (hz : z = (b : Int)) (hn : l.length < 1000000000) (hB : B ≤ W.heap.size)
    (h : ∀ v' w', Own w' B v' (l ++ [b]) → Below B W w' → wpList Try.prog ops Q rest (a.put o.dst v') w') :
    wpList Try.prog ops Q (o :: rest) a (W.alloc (.cells #[.int .u8 z] 5)) := by
  obtain ⟨i0, hi, hz0, hz1, hz2⟩ := info_parts info_u8
  subst hz
  refine wpList_append_own _ hgd s x ty ho B 5 i0 (.int .u8 0) 1 1 hty hi hz0 hz1 hz2 rfl (by decide) v l.length (bvals l) hs (World.ownsRow.alloc hown _) ⟨W.heap.size, 0, none⟩ 1 1
    [.int .u8 (b : Int)] hx rfl ?_ ?_ (by unfold maxLen; omega) (by omega) (by simp; omega) ?_
  · intro j u hj
    match j, hj with
    | 0, hj => simp at hj; subst hj; simp [Addr.add]
  · intro u hu; simp at hu; subst hu; rfl
  · intro v' w1 hown' hg _
    refine h v' w1 ?_ ?_
    · have e : bvals (l ++ [b]) = bvals l ++ [.int .u8 (b : Int)] := by simp [bvals]
      unfold Own
      rw [e, List.length_append]
      exact hown'
    · exact ((Below.refl B W).alloc hB _).grown hg (by simp; omega) (fun k hk => (World.ownsRow.lt hown k hk).1)
def AwRel (w : World) (v2 v : Value) (wr : World) : Prop :=
  ∃ k : Nat, v = .int .i64 (k : Int) ∧ k ≤ 16 ∧ Below w.heap.size w wr ∧ w.heap.size + 1 ≤ wr.heap.size ∧ Row wr w.heap.size 22 (fun i => u8 (if i < k then 17 * i else 0)) 16 ∧ Own wr (w.heap.size + 1) v2 (List.range k)
set_option maxHeartbeats 2000000 in
set_option maxRecDepth 100000 in
theorem awake5_any (w : World) : Calls Try.prog 17 #[] w fun e w' => e = .returned (.bool true) ∧ Below w.heap.size w w' := by
  have hz := zero16
  have hst : AwRel w (.slice none 0 0) (.int .i64 0) (w.alloc (.cells (rowV (bF z16) 16) 22)) := by
    refine ⟨0, rfl, by omega, (Below.refl _ _).alloc (Nat.le_refl _) _, by simp, Row.congr (heap_alloc_new w _) (fun i hi => ?_), Own.nil _ _⟩
    rw [if_neg (by omega)]
    unfold bF z16
    rw [List.getD_eq_getElem?_getD, List.getElem?_replicate, if_pos hi]; rfl
  have HST := Lib.hid hst
  clear hst
  go_enter Try.func17, Try.ntmps17
  go_wp2
  clear hz
  go_loopw [2, 7] (fun v2 v wr => AwRel w v2 v wr) (fun _ v _ => (16 - intOf v).toNat)
  case atStart => exact HST.out
  case round =>
    obtain ⟨k, rfl, hk, hb, hsz, h1, hown⟩ := hrel
    by_cases hlt : k < 16
    · have k1 : wr.cell? ⟨w.heap.size, k, none⟩ = some (.int .u8 ((0 : Nat) : Int)) := (Row.cell h1 hlt).trans (by rw [if_neg (by omega)]; rfl)
      have k2 : wr.frozen? ⟨w.heap.size, k, none⟩ = false := Row.free h1 _
      have q1 : 17 * (k : Int) % 256 = 17 * (k : Int) := by omega
      have q2 : (k : Int) % 256 = (k : Int) := by omega
      have hown1 : Own (wr.setCell ⟨w.heap.size, k, none⟩ (.int .u8 (17 * (k : Int)))) (w.heap.size + 1) u2 (List.range k) := hown.keep fun g hg => Below.heap_setCell wr ⟨w.heap.size, k, none⟩ _ g (by have := (hown.lt hg).1; show g ≠ w.heap.size; omega)
      have hrow1 : Row (wr.setCell ⟨w.heap.size, k, none⟩ (.int .u8 (17 * (k : Int)))) w.heap.size 22 (fun i => Value.int .u8 ((if i < k + 1 then 17 * i else 0 : Nat) : Int)) 16 := Row.congr (Row.set_ h1 k _) (fun i hi => by
        by_cases e : i = k
        · subst e; rw [if_pos rfl, if_pos (by omega)]; rfl
        · rw [if_neg e]
          by_cases h : i < k
          · rw [if_pos h, if_pos (by omega)]; rfl
          · rw [if_neg h, if_neg (by omega)]; rfl)
      have hb1 : Below w.heap.size w (wr.setCell ⟨w.heap.size, k, none⟩ (.int .u8 (17 * (k : Int)))) := hb.setCell (Nat.le_refl _) _
      have hsz1 : w.heap.size + 1 ≤ (wr.setCell ⟨w.heap.size, k, none⟩ (.int .u8 (17 * (k : Int)))).heap.size := by rw [size_set]; exact hsz
      have HO := Lib.hid hown1
      have HR := Lib.hid hrow1
      have HB := Lib.hid hb1
      clear hown hown1 hrow1 hb hb1 h1 HST
      go_wp2_with (at_builtin; refine wp_app_t 78 Try.underlying78 _ rfl (.tmp 15) (.tmp 18) rfl (w.heap.size + 1) u2 (List.range k) _ k rfl HO.out (by rw [size_set]; rfl) rfl (by rw [List.length_range]; omega) hsz1 ?_; intro v' w2 hown2 hb2)
      go_roundw
      case rel => exact ⟨k + 1, by go_num, by omega, HB.out.trans (hb2.mono (by omega)), Nat.le_trans hsz1 hb2.size, Row.below HR.out hb2 (by omega), by rw [List.range_succ]; exact hown2⟩
      case measure => simp [intOf]; omega
    · obtain rfl : k = 16 := by omega
      clear HST
      have hp : Row wr w.heap.size 22 (bF Aes.plain0) 16 := Row.congr h1 fun i hi => by
        rw [if_pos hi]
        unfold bF
        congr 1
        have : ∀ j : Fin 16, 17 * (j : Nat) = Aes.plain0.getD j 0 := by decide
        exact this ⟨i, hi⟩
      obtain ⟨b, o, c, rfl, hbs⟩ := own_gives (w' := wr) hown k0_byte (by simp)
      have hbs' : BS wr wr.heap.size (some ⟨b, o, none⟩) 16 c k0 := hbs
      have HP := Lib.hid hp
      have HBS := Lib.hid hbs'
      have HB := Lib.hid hb
      clear hown hbs hbs' hp h1 hb
      go_wp2_with fail
      refine (newBox_any _).mono ?_
      rintro e w1 ⟨rfl, hb1, hbx⟩
      have HB1 := Lib.hid hb1
      have HBX := Lib.hid hbx
      have HBS1 := Lib.hid ((HBS.out.below hb1).more hb1.size)
      clear hb1 hbx
      go_wp2_with fail
      refine (new_16 wr.heap.size b o c k0 w1 HBX.out HBS1.out).mono ?_
      rintro e w2 ⟨rfl, hc2, hb2⟩
      have HB2 : Hid (Below wr.heap.size wr w2) := Lib.hid (HB1.out.trans (hb2.mono HB1.out.size))
      have HC2 := Lib.hid (hc2.cip (fun i => Aes.sch_byte (fun c h => Gf.sub_lt h) k0_byte _ _) (by omega))
      have HP2 := Lib.hid (Row.below HP.out HB2.out (Row.lt HP.out))
      clear hb2 hc2 HBX HBS1
      obtain ⟨dm, hdm⟩ : ∃ dm, dm = rowV (bF Aes.plain0) 16 := ⟨_, rfl⟩
      have hpd : w2.heap[w.heap.size]? = some (.cells dm 22 (0, 0)) := by rw [hdm]; exact HP2.out
      have hid1 : (Try.prog.info? 22).map (·.size) = some dm.size := by rw [hdm]; exact info16 _
      have HPD := Lib.hid hpd
      have HID := Lib.hid hid1
      have HENC := Lib.hid (encrypt_any w1.heap.size 10 (Aes.sch Gf.sub k0 4 44) Aes.plain0 w2 HC2.out p0_ok)
      rw [aw_enc, ← hdm] at HENC
      clear hdm hpd hid1
      go_wp2_with (with_reducible refine wpList_load_row rfl 22 (.tmp 1) rfl _ rfl 22 _ _ _ HPD.out Try.underlying22 rfl HID.out ?_)
      refine HENC.out.mono ?_
      rintro e w3 ⟨rfl, hb3⟩
      obtain ⟨xm, hxm⟩ : ∃ xm, xm = rowV (bF x0) 16 := ⟨_, rfl⟩
      rw [← hxm]
      have hix : (Try.prog.info? 22).map (·.size) = some xm.size := by rw [hxm]; exact info16 _
      have hox : xm.all (·.oneCell') = true := by rw [hxm]; exact one_row _ _
      have hzx : (rowV (bF z16) 16).size = xm.size := by rw [hxm, rowV_size, rowV_size]
      have hd : ∀ i, i < 16 → xm[i]? = some (bF x0 i) := fun i hi => by rw [hxm]; exact rowV_at _ hi
      have HIX := Lib.hid hix
      have HOX := Lib.hid hox
      have HZX := Lib.hid hzx
      have HD := Lib.hid hd
      have HB3 := Lib.hid (HB.out.trans ((HB2.out.trans (hb3.mono HB2.out.size)).mono (by omega)))
      clear hix hox hzx hd hxm hb3 HP HP2 HPD HID HENC HC2 HB2 HB
      have hz := zero16
      go_wp2_with (
        refine wpList_store_row rfl 22 (.tmp 6) (.tmp 29) rfl _ _ rfl rfl 22 _ (heap_alloc_new w3 _) HIX.out HZX.out HOX.out ?_
        have h4 := setRow_heap (w3.alloc (.cells (rowV (bF z16) 16) 22)) w3.heap.size _ xm _ _ (heap_alloc_new w3 _)
        have hb4 : Below w3.heap.size w3 ((w3.alloc (.cells (rowV (bF z16) 16) 22)).setRow w3.heap.size xm) := below_setRow ((Below.refl _ _).alloc (Nat.le_refl _) _) (Nat.le_refl _) xm
        have hbw4 : Below w.heap.size w ((w3.alloc (.cells (rowV (bF z16) 16) 22)).setRow w3.heap.size xm) := HB3.out.trans (hb4.mono HB3.out.size)
        generalize (w3.alloc (.cells (rowV (bF z16) 16) 22)).setRow w3.heap.size xm = w4 at *
        have c0 : w4.cell? ⟨w3.heap.size, 0, none⟩ = some (.int .u8 105) := (blk_cell h4 0).trans (HD.out 0 (by omega))
        have c1 : w4.cell? ⟨w3.heap.size, 1, none⟩ = some (.int .u8 196) := (blk_cell h4 1).trans (HD.out 1 (by omega))
        have c2 : w4.cell? ⟨w3.heap.size, 15, none⟩ = some (.int .u8 90) := (blk_cell h4 15).trans (HD.out 15 (by omega))
        have HB4 := Lib.hid hbw4
        clear h4 hb4 hbw4 HD HOX HZX HIX HB3 hz)
      go_ret
      exact ⟨rfl, HB4.out⟩
end Go.Proofs.Ytplapepgedagoaa
