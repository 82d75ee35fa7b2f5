/-
  ShaParts' walk.
-/
import Derived.Test.YtimonlkelgpekacShaT
import Derived.Test.YtimonlkelgpekacCls
import Derived.Test.YtimonlkelgpekacQTail
import Derived.Test.YtimonlkelgpekacEq
import Derived.Deep.RegionHeld3
namespace Go.Proofs.Ytimonlkelgpekac
open Go.RowKit Go
set_option linter.unusedVariables false
set_option linter.unusedSimpArgs false
theorem sum_len (m : List Nat) : (Sha.sum m).length = 32 := dig_len _
theorem equal_dig (l m : List Nat) (w : World) : (Op.equalIn 10000 49 (.agg (digA l)) (.agg (digA m))).run Try.prog w = .ok (decide (Sha.sum l = Sha.sum m)) w :=
  equal_row _ 32 Try.underlying49 _ _ (sum_len l) (sum_len m) w
theorem equal_same (l : List Nat) (w : World) : (Op.equalIn 10000 49 (.agg (digA l)) (.agg (digA l))).run Try.prog w = .ok true w := by
  rw [equal_dig, decide_eq_true rfl]
theorem take_byte' {l : List Nat} (h : ∀ i, l.getD i 0 < 256) (k : Nat) : ∀ i, (l.take k).getD i 0 < 256 := byte_take h k
/-- one part in a block of its own, behind the table -/
theorem one_part {W : World} {A : Option Addr} {m c : Nat} {l : List Nat} (hbs : BS W W.heap.size A m c l) (ho : ∀ ad, A = some ad → ad.block < W.heap.size) :
    ∀ X, (W.alloc (.cells #[.slice A m c] 22)).heap.size ≤ X → Parts (W.alloc (.cells #[.slice A m c] 22)) X (.slice (some ⟨W.heap.size, 0, none⟩) 1 1) [l] := by
  intro X hX
  have es : (W.alloc (.cells #[.slice A m c] 22)).heap.size = W.heap.size + 1 := by simp
  rw [es] at hX
  refine parts_one (heap_alloc_new W _) (by omega) ((hbs.below ((Below.refl _ _).alloc (Nat.le_refl _) _)).more (by rw [es]; omega)) fun _ ad e => ?_
  have := ho ad e
  omega
/-- .. and only the block that it lies in may turn -/
theorem wp_apps2 {ops : Array Oper} {rest : List Oper} {o : Oper} {a : Act} {Q : Exit → Act → World → Prop} (W : World) (hgd : o.guard = none) (s x : Operand)
    (ho : o.op = .call { callee := .builtin .append, args := #[s, x], argTypes := #[22, 22] })
    (B : Nat) (v : Value) (l : List Nat) (hs : a.eval s = v) (hown : Own W B v l)
    (B' : Nat) (A : Option Addr) (m c : Nat) (l' : List Nat) (hx : a.eval x = .slice A m c) (hr : BS W B' A m c l') (hA : A = none → c = 0) (hn : l.length + m < 1000000000) (hB : B ≤ W.heap.size)
    (h : ∀ v' w', Own w' B v' (l ++ l') → W.grownBy w' v.ownBlock → wpList Try.prog ops Q rest (a.put o.dst v') w') :
    wpList Try.prog ops Q (o :: rest) a W := by
  obtain ⟨i0, hi, hz0, hz1, hz2⟩ := info_parts info_u8
  have hm := hr.len
  rcases A with _ | ad
  · have h0 := hA rfl
    have h1 := hr.cap
    have hm0 : m = 0 := by omega
    subst hm0 h0
    obtain rfl := List.length_eq_zero_iff.mp hm
    refine wpList_append_own_none hgd s x 22 ho B 5 i0 1 Try.underlying22 hi v l.length (bvals l) hs hown hx ?_
    exact h v W (by rw [List.append_nil]; exact hown) (World.grownBy.refl W _)
  · refine wpList_append_own _ hgd s x 22 ho B 5 i0 (.int .u8 0) 1 1 Try.underlying22 hi hz0 hz1 hz2 rfl (by decide) v l.length (bvals l) hs hown ad m c
      (bvals l') hx (by rw [bvals_len, hm, Nat.mul_one]) ?_ (bvals_one l') (by unfold maxLen; omega) (by omega) hB ?_
    · intro j u hj
      have hjl : j < l'.length := by
        rcases Nat.lt_or_ge j l'.length with h | h
        · exact h
        · rw [List.getElem?_eq_none (by rw [bvals_len]; exact h)] at hj; cases hj
      obtain ⟨b, o, e, _, hc⟩ := hr.at_ (by omega)
      obtain rfl : ad = ⟨b, o, none⟩ := Option.some.inj e
      have h2 := hc j (by omega)
      rw [Go.WideShapes.add_plain, h2, ← hj]
      simp [bvals, List.getElem?_eq_getElem hjl, List.getD]
    · intro v' w1 hown' hg _
      refine h v' w1 ?_ hg
      have e : bvals (l ++ l') = bvals l ++ bvals l' := by simp [bvals]
      unfold Own
      rw [e, List.length_append, hm]
      exact hown'
theorem parts_two {w : World} {X b : Nat} {A A2 : Option Addr} {n c n2 c2 : Nat} {l l2 : List Nat} {t : TypeId} (hb : w.heap[b]? = some (.cells #[.slice A n c, .slice A2 n2 c2] t (0, 0))) (hne : b ≠ X)
    (hbs : BS w w.heap.size A n c l) (hoff : Off n A X) (hbs2 : BS w w.heap.size A2 n2 c2 l2) (hoff2 : Off n2 A2 X) : Parts w X (.slice (some ⟨b, 0, none⟩) 2 2) [l, l2] := by
  refine ⟨_, 2, rfl, Nat.le_refl _, by omega, fun _ => ⟨b, 0, rfl, hne, blk_lt hb, fun i l' hl => ?_⟩⟩
  rcases (by omega : i = 0 ∨ i = 1 ∨ 2 ≤ i) with rfl | rfl | h
  · injection hl with hl
    subst hl
    exact ⟨A, n, c, blk_cell hb 0, hbs, hoff⟩
  · injection hl with hl
    subst hl
    exact ⟨A2, n2, c2, blk_cell hb 1, hbs2, hoff2⟩
  · rw [List.getElem?_eq_none (by simpa using h)] at hl; cases hl

/-- a slice of slices of bytes that came in -/
structure ArgL (w : World) (P : Option Addr) (n : Nat) (Ls : List (List Nat)) : Prop where
  len : Ls.length = n
  at_ : 0 < n → ∃ b o, P = some ⟨b, o, none⟩ ∧ b < w.heap.size ∧ ∀ i l, Ls[i]? = some l → ∃ A k c, w.cell? ⟨b, o + i, none⟩ = some (.slice A k c) ∧ BS w w.heap.size A k c l ∧ (A = none → c = 0)
theorem ArgL.byte {w : World} {P : Option Addr} {n : Nat} {Ls : List (List Nat)} (h : ArgL w P n Ls) : ∀ l ∈ Ls, ∀ i, l.getD i 0 < 256 := fun l hl i => by
  obtain ⟨k, hk⟩ := List.getElem?_of_mem hl
  have hlt := (List.getElem?_eq_some_iff.mp hk).1
  obtain ⟨b, o, _, _, hc⟩ := h.at_ (by have := h.len; omega)
  obtain ⟨A, m, c, _, hbs, _⟩ := hc k l hk
  exact hbs.byte i
def cat (Ls : List (List Nat)) (k : Nat) : List Nat := ((Ls.take k).map fun l => l.take 300).flatten
theorem cat_succ {Ls : List (List Nat)} {k : Nat} {l : List Nat} (h : Ls[k]? = some l) : cat Ls (k + 1) = cat Ls k ++ l.take 300 := by
  have hk := (List.getElem?_eq_some_iff.mp h).1
  have hx := (List.getElem?_eq_some_iff.mp h).2
  unfold cat
  rw [List.take_succ_eq_append_getElem hk, List.map_append, List.flatten_append, hx]
  simp
theorem cat_len (Ls : List (List Nat)) (k : Nat) : (cat Ls k).length ≤ 300 * k := by
  induction k with
  | zero => simp [cat]
  | succ k ih =>
    by_cases h : k < Ls.length
    · rw [cat_succ (List.getElem?_eq_getElem h), List.length_append, List.length_take]; omega
    · unfold cat at *
      rw [List.take_of_length_le (by omega)] at ih ⊢
      omega
theorem byte_flatten {Ls : List (List Nat)} (h : ∀ l ∈ Ls, ∀ i, l.getD i 0 < 256) (i : Nat) : Ls.flatten.getD i 0 < 256 := by
  rw [List.getD_eq_getElem?_getD]
  cases e : Ls.flatten[i]? with
  | none => simp
  | some x =>
    obtain ⟨l, hl, hx⟩ := List.mem_flatten.mp (List.mem_of_getElem? e)
    obtain ⟨j, hj⟩ := List.getElem?_of_mem hx
    have := h l hl j
    rw [List.getD_eq_getElem?_getD, hj] at this
    exact this
theorem cat_byte {Ls : List (List Nat)} (h : ∀ l ∈ Ls, ∀ i, l.getD i 0 < 256) (k i : Nat) : (cat Ls k).getD i 0 < 256 := by
  refine byte_flatten (fun l hl => ?_) i
  obtain ⟨l', hl', rfl⟩ := List.mem_map.mp hl
  exact byte_take (h l' (List.mem_of_mem_take hl')) 300
theorem Own.full {w : World} {B : Nat} {v : Value} {l : List Nat} (h : Own w B v l) (h2 : ∀ i, l.getD i 0 < 256) :
    ∃ A c, v = .slice A l.length c ∧ BS w w.heap.size A l.length c l ∧ (A = none → c = 0) ∧ (∀ ad, A = some ad → B ≤ ad.block ∧ ad.block < w.heap.size) := by
  have h0 := h
  have hlt := fun g (hg : v.ownBlock = some g) => h.lt hg
  obtain ⟨A, c, rfl, hbs⟩ := h0.bs h2
  refine ⟨A, c, rfl, hbs, ?_, fun ad e => hlt _ (by rw [e]; rfl)⟩
  rintro rfl
  obtain ⟨_, h3⟩ := h
  rcases h3 with ⟨h4, _⟩ | ⟨g, cap, cur, h4, _⟩
  · injection h4
  · injection h4 with h5; cases h5
theorem run_take {P : Program} (t e : TypeId) (ht : P.underlying t = some (.slice e)) (hi : (P.info? e).map (·.size) = some 1) (A : Option Addr) (n c k : Nat) (hk : k ≤ c) (w : World) :
    (Instr.slice t (.slice A n c) none (some (.int .i64 (k : Int))) none).run P w = .ok (.slice A k c) w := by
  obtain ⟨i, hi', hz⟩ := Option.map_eq_some_iff.mp hi
  simp [Instr.slice, Instr.sliceBounds, Instr.sliceBound, run_underlying ht, asIntOf, go_sem, sizeOf, typeInfo, hi', hz]
  omega
def PtRel (w : World) (gt hb B : Nat) (Ls : List (List Nat)) (v5 v : Value) (wr : World) : Prop :=
  ∃ k : Nat, v = .int .i64 (k : Int) ∧ k ≤ Ls.length ∧ k ≤ 8 ∧ Below w.heap.size w wr ∧ B ≤ wr.heap.size ∧ IsSum wr hb gt (cat Ls k) ∧ Own wr B v5 (cat Ls k)
set_option maxHeartbeats 2000000 in
set_option maxRecDepth 100000 in
theorem shaParts_any (P : Option Addr) (n c : Nat) (Ls : List (List Nat)) (w : World) (hl : ArgL w P n Ls) :
    Calls Try.prog 4 #[.slice P n c] w fun e w' => e = .returned (.bool true) ∧ Below w.heap.size w w' := by
  have HL := Lib.hid hl
  have HLS := Lib.hid hl.byte
  have hn := hl.len
  have HN := Lib.hid hn
  clear hl
  go_enter Try.func4, Try.ntmps4
  go_wp2_with fail
  refine (make_any _).mono ?_
  rintro e w1 ⟨rfl, hb1, ht1⟩
  have HB1 := Lib.hid hb1
  have HT1 := Lib.hid ht1
  clear hb1 ht1
  go_wp2_with fail
  refine (new_any w.heap.size w1 HT1.out).mono ?_
  rintro e w2 ⟨rfl, hb2, hs2⟩
  have hlt : w.heap.size < w1.heap.size := Row.lt HT1.out
  have hsl := hs2.lt
  have HST : Hid (PtRel w w.heap.size w1.heap.size w2.heap.size Ls (.slice none 0 0) (.int .i64 0) w2) := Lib.hid
    ⟨0, rfl, Nat.zero_le _, by omega, HB1.out.trans (hb2.mono (by omega)), Nat.le_refl _, hs2, Own.nil _ _⟩
  clear hb2 hs2 HT1 HB1
  generalize hgt : w.heap.size = gt at HST hlt hsl ⊢
  generalize w1.heap.size = hb at *
  generalize w2.heap.size = B at *
  have HGT := Lib.hid hgt
  clear hgt
  obtain ⟨hsl1, hsl2⟩ := hsl
  go_wp2
  go_loopw [5, 13] (fun v5 v wr => PtRel w gt hb B Ls v5 v wr) (fun _ v _ => (n - intOf v).toNat)
  case atStart => exact HST.out
  case round =>
    obtain ⟨k, rfl, hk, hk8, hbw, hB, hsum, hown⟩ := hrel
    have HB := Lib.hid hbw
    have HS := Lib.hid hsum
    have HO := Lib.hid hown
    have hcl := cat_len Ls k
    have hszw := hbw.size
    clear hbw hsum hown HST
    by_cases hlt2 : k < n
    · have hlI : (k : Int) < (n : Int) := by omega
      obtain ⟨l, hx⟩ : ∃ l, Ls[k]? = some l := ⟨_, List.getElem?_eq_getElem (by omega)⟩
      obtain ⟨ab, ao, rfl, hab, hce⟩ := HL.out.at_ (by omega)
      obtain ⟨A, q, cc, hcell, hbs, hnil⟩ := hce k l hx
      have hoff : 0 < q → ∀ ad, A = some ad → ad.block < w.heap.size := fun h0 ad e => by
        obtain ⟨b', o', e', hb', _⟩ := hbs.at_ h0
        rw [e'] at e
        obtain rfl := Option.some.inj e
        exact hb'
      have c0 : wr.cell? ⟨ab, ao + k, none⟩ = some (.slice A q cc) := (HB.out.cell (p := ⟨ab, ao + k, none⟩) hab).trans hcell
      have HBS := Lib.hid ((hbs.below HB.out).more hszw)
      have HOFF := Lib.hid hoff
      have HNIL := Lib.hid hnil
      have HX := Lib.hid hx
      clear hce hcell hbs hoff hnil hx
      by_cases h8 : k < 8
      · have h8I : (k : Int) < 8 := by omega
        have h8J : ¬ (8 : Int) ≤ (k : Int) := by omega
        go_wp2_with fail
        refine (short3_any A q cc l _ HBS.out).mono ?_
        rintro e w3 ⟨m, rfl, hm, hbs3, rfl⟩
        have HBS3 := Lib.hid hbs3
        have hml := hbs3.len
        have hmq : m ≤ q := by rw [← hml, List.length_take, HBS.out.len]; omega
        have hcat := cat_succ HX.out
        have HCAT := Lib.hid hcat
        have HQB := Lib.hid (byte_take (HBS.out.byte) 300)
        generalize l.take 300 = q3 at *
        have hcap3 := hbs3.cap
        clear hbs3 c0 HX HBS hcat
        go_wp2_with (at_builtin; refine wp_apps wr rfl (.tmp 22) (.tmp 23) rfl B _ _ rfl HO.out _ A m cc q3 rfl HBS3.out HNIL.out (by omega) hB ?_; intro v' w4 hown4 hb4)
        have HO4 := Lib.hid hown4
        rw [← HCAT.out] at HO4
        have HS4 := Lib.hid (HS.out.below hb4 hsl1 (by omega))
        have HB4 := Lib.hid (HB.out.trans (hb4.mono (by have := HGT.out; omega)))
        have HBW4 := Lib.hid hb4
        have hB4 : B ≤ w4.heap.size := Nat.le_trans hB hb4.size
        obtain ⟨h2, hh2⟩ : ∃ h2, h2 = m / 2 := ⟨_, rfl⟩
        have hq2 : (m : Int) / 2 = (h2 : Int) := by omega
        have hh3 : h2 ≤ m := by omega
        clear hh2
        have hw2 : IntKind.i64.wrap ((h2 : Nat) : Int) = (h2 : Int) := IntWalk.i64_in _ (by omega)
        have s1 := fun W => run_take (P := Try.prog) 22 5 Try.underlying22 size_u8 A m cc h2 (by omega) W
        have s2 := fun W => run_cut (P := Try.prog) 22 5 Try.underlying22 size_u8 A m cc h2 hh3 W
        obtain ⟨W5, hW5⟩ : ∃ W5, W5 = w4.drew := ⟨_, rfl⟩
        have h45 : Below w4.heap.size w4 W5 := by rw [hW5]; exact (Below.refl _ _).drew
        have HS5 := Lib.hid (HS4.out.below h45 (by omega) (by omega))
        have HO5 := Lib.hid (HO4.out.below h45)
        have HB5 := Lib.hid (HB4.out.trans (h45.mono HB4.out.size))
        have hB5 : B ≤ W5.heap.size := Nat.le_trans hB4 h45.size
        have hbs5 : BS W5 w.heap.size A m cc q3 := by
          refine BS.keep (w := wr) ?_ (fun p hp => ?_)
          · refine ⟨HBS3.out.1, HBS3.out.2.1, HBS3.out.2.2.1, HBS3.out.2.2.2.1, fun hn0 => ?_⟩
            obtain ⟨b', o', e', _, hc'⟩ := HBS3.out.2.2.2.2 hn0
            exact ⟨b', o', e', HOFF.out (by omega) _ e', hc'⟩
          · have hg := HGT.out
            exact ((HBW4.out.cell (p := p) (by omega)).symm ▸ (h45.cell (p := p) (by have := hB4; omega)))
        have HBS5 := Lib.hid hbs5
        have HW5 := Lib.hid hW5
        clear hb4 hown4 h45 hbs5 hW5 HBS3
        refine wp_region_held_drew (S := fun _ => True) (by kernel_rfl) ?_ (fun hHeld => ?_)
        · trivial
        clear hHeld
        have hHeld : True := trivial
        rw [← HW5.out]
        refine wpAnyH_take (i := 0) (oi := _) (v := ?_) rfl (by kernel_rfl) (by kernel_rfl) (by kernel_rfl) (fun _ _ _ h => h) (Or.inl ⟨by rfl, ?_⟩) (by assumption) ?_
        rotate_left 1
        · intro w hSw
          (first | (go_simp; done) | (go_simp; with_reducible rfl))
        (try simp only [Act.put, List.getElem_toArray, List.getElem_cons_succ, List.getElem_cons_zero, List.setIfInBounds_toArray, List.set_cons_zero, List.set_cons_succ])
        refine wpAnyH_take (i := 1) (oi := _) (v := ?_) rfl (by kernel_rfl) (by kernel_rfl) (by kernel_rfl) (fun _ _ _ h => h) (Or.inl ⟨by rfl, ?_⟩) (by assumption) ?_
        rotate_left 1
        · intro w hSw
          (first | (go_simp; done) | (go_simp; with_reducible rfl))
        (try simp only [Act.put, List.getElem_toArray, List.getElem_cons_succ, List.getElem_cons_zero, List.setIfInBounds_toArray, List.set_cons_zero, List.set_cons_succ])
        refine wpAnyH_take (i := 2) (oi := _) (v := ?_) rfl (by kernel_rfl) (by kernel_rfl) (by kernel_rfl) (fun _ _ _ h => h) (Or.inl ⟨by rfl, ?_⟩) (by assumption) ?_
        rotate_left 1
        · intro w hSw
          (first | (go_simp; done) | (go_simp; with_reducible rfl))
        (try simp only [Act.put, List.getElem_toArray, List.getElem_cons_succ, List.getElem_cons_zero, List.setIfInBounds_toArray, List.set_cons_zero, List.set_cons_succ])
        refine wpAnyH_take (i := 3) (oi := _) (v := ?_) rfl (by kernel_rfl) (by kernel_rfl) (by kernel_rfl) (fun _ _ _ h => h) (Or.inl ⟨by rfl, ?_⟩) (by assumption) ?_
        rotate_left 1
        · intro w hSw
          (first | (go_simp; done) | (go_simp; with_reducible rfl))
        (try simp only [Act.put, List.getElem_toArray, List.getElem_cons_succ, List.getElem_cons_zero, List.setIfInBounds_toArray, List.set_cons_zero, List.set_cons_succ])
        refine wpAnyH_take (i := 4) (oi := _) (v := ?_) rfl (by kernel_rfl) (by kernel_rfl) (by kernel_rfl) (fun _ _ _ h => h) (Or.inl ⟨by rfl, ?_⟩) (by assumption) ?_
        rotate_left 1
        · intro w hSw
          (first | (go_simp; done) | (go_simp; with_reducible rfl))
        (try simp only [Act.put, List.getElem_toArray, List.getElem_cons_succ, List.getElem_cons_zero, List.setIfInBounds_toArray, List.set_cons_zero, List.set_cons_succ])
        refine wpAnyH_take (i := 5) (oi := _) (v := ?_) rfl (by kernel_rfl) (by kernel_rfl) (by kernel_rfl) (fun _ _ _ h => h) (Or.inl ⟨by rfl, ?_⟩) (by assumption) ?_
        rotate_left 1
        · intro w hSw
          (first | (go_simp; done) | (go_simp; with_reducible rfl))
        (try simp only [Act.put, List.getElem_toArray, List.getElem_cons_succ, List.getElem_cons_zero, List.setIfInBounds_toArray, List.set_cons_zero, List.set_cons_succ])
        refine wpAnyH_take (i := 6) (oi := _) (v := ?_) rfl (by kernel_rfl) (by kernel_rfl) (by kernel_rfl) (fun _ _ _ h => h) (Or.inl ⟨by rfl, ?_⟩) (by assumption) ?_
        rotate_left 1
        · intro w hSw
          (first | (go_simp; done) | (go_simp; with_reducible rfl))
        (try simp only [Act.put, List.getElem_toArray, List.getElem_cons_succ, List.getElem_cons_zero, List.setIfInBounds_toArray, List.set_cons_zero, List.set_cons_succ])
        refine wpAnyH_take (i := 7) (oi := _) (v := ?_) rfl (by kernel_rfl) (by kernel_rfl) (by kernel_rfl) (fun _ _ _ h => h) (Or.inl ⟨by rfl, ?_⟩) (by assumption) ?_
        rotate_left 1
        · intro w hSw
          (first | (go_simp; done) | (go_simp; with_reducible rfl))
        (try simp only [Act.put, List.getElem_toArray, List.getElem_cons_succ, List.getElem_cons_zero, List.setIfInBounds_toArray, List.set_cons_zero, List.set_cons_succ])
        refine wpAnyH_take (i := 8) (oi := _) (v := ?_) rfl (by kernel_rfl) (by kernel_rfl) (by kernel_rfl) (fun _ _ _ h => h) (Or.inl ⟨by rfl, ?_⟩) (by assumption) ?_
        rotate_left 1
        · intro w hSw
          (first | (go_simp; done) | (go_simp; with_reducible rfl))
        (try simp only [Act.put, List.getElem_toArray, List.getElem_cons_succ, List.getElem_cons_zero, List.setIfInBounds_toArray, List.set_cons_zero, List.set_cons_succ])
        refine wpAnyH_take (i := 9) (oi := _) (v := ?_) rfl (by kernel_rfl) (by kernel_rfl) (by kernel_rfl) (fun _ _ _ h => h) (Or.inl ⟨by rfl, ?_⟩) (by assumption) ?_
        rotate_left 1
        · intro w hSw
          (first | (go_simp; done) | (go_simp; with_reducible rfl))
        (try simp only [Act.put, List.getElem_toArray, List.getElem_cons_succ, List.getElem_cons_zero, List.setIfInBounds_toArray, List.set_cons_zero, List.set_cons_succ])
        refine wpAnyH_take (i := 10) (oi := _) (v := ?_) rfl (by kernel_rfl) (by kernel_rfl) (by kernel_rfl) (fun _ _ _ h => h) (Or.inl ⟨by rfl, ?_⟩) (by assumption) ?_
        rotate_left 1
        · intro w hSw
          (first | (go_simp; done) | (go_simp; with_reducible rfl))
        (try simp only [Act.put, List.getElem_toArray, List.getElem_cons_succ, List.getElem_cons_zero, List.setIfInBounds_toArray, List.set_cons_zero, List.set_cons_succ])
        refine wpAnyH_ready (rs := [11]) (by kernel_rfl) (by simp) ?_
        refine AllReadyH.cons (o := _) rfl (fun K hK => ?_) AllReadyH.nil
        go_simp
        refine hK.out _ _ ?_ (fun hHeld11 => ?_)
        · (try dsimp only)
          all_goals trivial
        clear hK K
        (try simp only [Act.put, List.getElem_toArray, List.getElem_cons_succ, List.getElem_cons_zero, List.setIfInBounds_toArray, List.set_cons_zero, List.set_cons_succ])
        clear s1 s2 hw2
        have hb6 : Below W5.heap.size W5 (W5.alloc (.cells #[.slice A h2 cc, .slice (cutA A cc h2) (m - h2) (cc - h2)] 22)) := (Below.refl _ _).alloc (Nat.le_refl _) _
        have HS6 := Lib.hid (HS5.out.below hb6 (by omega) (by omega))
        have HO6 := Lib.hid (HO5.out.below hb6)
        have HB6 := Lib.hid (HB5.out.trans (hb6.mono HB5.out.size))
        have hsz6 := hb6.size
        have hp6 : Parts (W5.alloc (.cells #[.slice A h2 cc, .slice (cutA A cc h2) (m - h2) (cc - h2)] 22)) hb (.slice (some ⟨W5.heap.size, 0, none⟩) 2 2) [q3.take h2, q3.drop h2] := by
          have hof : Off m A hb := fun h0 ad e => by have := HOFF.out (by omega) ad e; have := HGT.out; omega
          have hb6' := ((HBS5.out.below (hb6.mono (by have := HB5.out.size; omega))).more (by have := HB6.out.size; omega : w.heap.size ≤ (W5.alloc (.cells #[.slice A h2 cc, .slice (cutA A cc h2) (m - h2) (cc - h2)] 22)).heap.size))
          exact parts_two (heap_alloc_new W5 _) (by omega) (hb6'.take hh3) (fun h0 => hof (by omega)) (hb6'.cut hh3) (hof.cut _ _)
        have HP6 := Lib.hid hp6
        have hflat : [q3.take h2, q3.drop h2].flatten = q3 := by show q3.take h2 ++ (q3.drop h2 ++ []) = q3; rw [List.append_nil, List.take_append_drop]
        have hql : q3.length ≤ 300 := by omega
        clear hb6 hp6
        refine wpAnyH_ready (rs := [12]) (by kernel_rfl) (by simp) ?_
        refine AllReadyH.cons (o := _) rfl (fun K hK => ?_) AllReadyH.nil
        go_simp
        generalize W5.alloc (.cells #[.slice A h2 cc, .slice (cutA A cc h2) (m - h2) (cc - h2)] 22) = W6 at *
        go_at_call 21
        refine (writes_any hb gt _ _ _ _ HS6.out HP6.out (by rw [hflat]; omega) (by simp)).mono ?_
        rintro e w7 ⟨rfl, hg7, hs7⟩
        refine hK.out _ _ ?_ (fun hHeld12 => ?_)
        · (try dsimp only)
          all_goals trivial
        clear hK K
        (try simp only [Act.put, List.getElem_toArray, List.getElem_cons_succ, List.getElem_cons_zero, List.setIfInBounds_toArray, List.set_cons_zero, List.set_cons_succ])
        refine wpAnyH_done (by kernel_rfl) ?_ _
        rw [hflat, ← HCAT.out] at hs7
        have hcl7 := cat_len Ls (k + 1)
        have HCB := Lib.hid (cat_byte HLS.out (k + 1))
        generalize hrel : cat Ls (k + 1) = M at *
        have HREL := Lib.hid hrel.symm
        clear hrel
        have hown7 : Own w7 B v' M := HO6.out.keep fun g hg => hg7.block g (HO6.out.lt hg).2 (fun e => by
          have := (HO6.out.lt hg).1
          injection e with e
          omega)
        have HB7 : Hid (Below w.heap.size w w7) := Lib.hid (below_only HB6.out (by have := HGT.out; omega) (Nat.le_trans (by have := HB5.out.size; omega) hsz6) hg7)
        have hB7 : B ≤ w7.heap.size := Nat.le_trans (by omega) hg7.size
        have HO7 := Lib.hid hown7
        have HS7 := Lib.hid hs7
        clear hg7 hs7 hown7 HO6 HS6 HP6 HB6 HO5 HS5 HB5 HBS5 HO4 HS4 HB4 HBW4 HO HS HB hflat
        obtain ⟨A5, c5, rfl, hbs7, hn7, ho7⟩ := Own.full HO7.out HCB.out
        have HBS7 := Lib.hid hbs7
        have HOF7 := Lib.hid ho7
        clear hbs7 hn7 ho7
        go_wp2_with fail
        refine (sum_any hb gt M _ HS7.out HCB.out (by omega)).mono ?_
        rintro e w8 ⟨rfl, hb8⟩
        have HB8 := Lib.hid (HB7.out.trans (hb8.mono HB7.out.size))
        have HS8 := Lib.hid (HS7.out.below hb8 (by omega) (by omega))
        have HO8 := Lib.hid (HO7.out.below hb8)
        have hB8 : B ≤ w8.heap.size := Nat.le_trans hB7 hb8.size
        have HBS8 := Lib.hid ((HBS7.out.below hb8).more hb8.size)
        have hpar := one_part HBS8.out (fun ad e => Nat.lt_of_lt_of_le (HOF7.out ad e).2 hb8.size)
        have hb9 : Below w8.heap.size w8 (w8.alloc (.cells #[.slice A5 M.length c5] 22)) := (Below.refl _ _).alloc (Nat.le_refl _) _
        have HB9 := Lib.hid (HB8.out.trans (hb9.mono HB8.out.size))
        have HS9 := Lib.hid (HS8.out.below hb9 (by omega) (by omega))
        have HO9 := Lib.hid (HO8.out.below hb9)
        have hB9 : B ≤ (w8.alloc (.cells #[.slice A5 M.length c5] 22)).heap.size := Nat.le_trans hB8 hb9.size
        have HPAR := Lib.hid hpar
        have hfl : [M].flatten = M := by simp
        have hq := fun W => equal_same M W
        have HTS := Lib.hid (fun (W : World) (V : Value) h1 h2 => tsum_any gt [M] V W h1 h2 (by rw [hfl]; exact HCB.out) (by rw [hfl]; omega) (by simp))
        rw [hfl] at HTS
        have HBS9 := HBS8
        clear hb8 hb9 hpar hfl
        generalize digA M = d at *
        go_wp2_with fail
        generalize w8.alloc (.cells #[.slice A5 M.length c5] 22) = W9 at *
        refine (HTS.out _ _ (by obtain ⟨_, _, _, h⟩ := HS9.out; exact h) HPAR.out).mono ?_
        rintro e w10 ⟨rfl, hb10⟩
        have HB10 := Lib.hid (HB9.out.trans (hb10.mono HB9.out.size))
        have HS10 := Lib.hid (HS9.out.below hb10 (by omega) (by omega))
        have HO10 := Lib.hid (HO9.out.below hb10)
        have hB10 : B ≤ w10.heap.size := Nat.le_trans hB9 hb10.size
        clear hb10
        go_wp2_with fail
        refine (len_any hb gt M _ HS10.out).mono ?_
        rintro e w11 ⟨rfl, rfl⟩
        go_wp2
        go_roundw
        case rel => exact ⟨k + 1, by go_num, by have := HN.out; omega, by omega, HB10.out, hB10, by rw [← HREL.out]; exact HS10.out, by rw [← HREL.out]; exact HO10.out⟩
        case measure => simp [intOf]; omega
      · have h8I : (8 : Int) ≤ (k : Int) := by omega
        clear HBS HOFF HNIL HX
        obtain ⟨A5, c5, rfl, hbs5, hn5, ho5⟩ := Own.full HO.out (cat_byte HLS.out k)
        have HBS5 := Lib.hid hbs5
        have HN5 := Lib.hid hn5
        have HCB := Lib.hid (cat_byte HLS.out k)
        have HCLN := Lib.hid hcl
        clear hbs5 hn5 ho5
        generalize hcm : cat Ls k = m at *
        have HCM := Lib.hid hcm
        clear hcm hcl
        go_wp2_with fail
        refine (sum_any hb gt m _ HS.out HCB.out (by have := HCLN.out; omega)).mono ?_
        rintro e w5 ⟨rfl, hb5⟩
        have HBS6 := Lib.hid ((HBS5.out.below hb5).more hb5.size)
        have HB6 := Lib.hid (HB.out.trans (hb5.mono HB.out.size))
        have hq := fun W => equal_same m W
        have HR := Lib.hid (fun W h => refSum_any A5 m.length c5 m W h HN5.out (by have := HCLN.out; omega))
        clear hb5
        generalize digA m = d at *
        go_wp2_with fail
        refine (HR.out _ HBS6.out).mono ?_
        rintro e w6 ⟨rfl, hb6⟩
        have HB7 := Lib.hid (HB6.out.trans (hb6.mono HB6.out.size))
        clear hb6
        go_wp2_with fail
        refine (awake_any _).mono ?_
        rintro e w7 ⟨rfl, hb7⟩
        have HB8 := Lib.hid (HB7.out.trans (hb7.mono HB7.out.size))
        clear hb7
        go_wp2
        go_ret
        exact ⟨rfl, HB8.out⟩
    · have hlI : ¬ (k : Int) < (n : Int) := by omega
      obtain ⟨A5, c5, rfl, hbs5, hn5, ho5⟩ := Own.full HO.out (cat_byte HLS.out k)
      have HBS5 := Lib.hid hbs5
      have HN5 := Lib.hid hn5
      have HCB := Lib.hid (cat_byte HLS.out k)
      have HCLN := Lib.hid hcl
      clear hbs5 hn5 ho5
      generalize hcm : cat Ls k = m at *
      have HCM := Lib.hid hcm
      clear hcm hcl
      go_wp2_with fail
      refine (sum_any hb gt m _ HS.out HCB.out (by have := HCLN.out; omega)).mono ?_
      rintro e w5 ⟨rfl, hb5⟩
      have HBS6 := Lib.hid ((HBS5.out.below hb5).more hb5.size)
      have HB6 := Lib.hid (HB.out.trans (hb5.mono HB.out.size))
      have hq := fun W => equal_same m W
      have HR := Lib.hid (fun W h => refSum_any A5 m.length c5 m W h HN5.out (by have := HCLN.out; omega))
      clear hb5
      generalize digA m = d at *
      go_wp2_with fail
      refine (HR.out _ HBS6.out).mono ?_
      rintro e w6 ⟨rfl, hb6⟩
      have HB7 := Lib.hid (HB6.out.trans (hb6.mono HB6.out.size))
      clear hb6
      go_wp2_with fail
      refine (awake_any _).mono ?_
      rintro e w7 ⟨rfl, hb7⟩
      have HB8 := Lib.hid (HB7.out.trans (hb7.mono HB7.out.size))
      clear hb7
      go_wp2
      go_ret
      exact ⟨rfl, HB8.out⟩
end Go.Proofs.Ytimonlkelgpekac
