/-
  Heads of roots: the document's Parse.
-/
import Derived.Test.YtfnppoagmambgaaHoF
import Derived.Test.YtfnppoagmambgaaStr
import Derived.Test.YtfnppoagmambgaaHeldF
namespace Go.Proofs.Ytfnppoagmambgaa
open Go.RowKit Go
set_option linter.unusedVariables false
set_option linter.unusedSimpArgs false
set_option maxRecDepth 100000
def RReadR (w : World) (s : Nat) (b : List Nat) (i : Value) (wr : World) : Prop :=
  ∃ k : Nat, i = .int .i64 (k : Int) ∧ k ≤ 16 ∧ Below w.heap.size w wr ∧ Row wr w.heap.size 40 (uF zl17) 17 ∧ Row wr s 40 (mixL (rdL b) k) 17
def RParseTo (w : World) (v : List Nat) (ok : Bool) (e : Ending) (w' : World) : Prop := e = .returned (.tuple #[.agg (rtV v), .bool ok]) ∧ Below w.heap.size w w'
theorem rparse_short (A : Option Addr) (n c : Nat) (w : World) (hn : n ≠ 256) :
    Calls Try.prog 20 #[.slice A n c] w (RParseTo w zl17 false) := by
  have hz := zero_rtr
  have hq : ((n : Int) == 256) = false := by rw [beq_eq_false_iff_ne]; omega
  have hq2 : ((n : Int) != 256) = true := by simp [bne, hq]
  have hne : ¬ (n : Int) = 256 := by omega
  have h0 := heap_alloc_new w (.cells (rtV zl17) 40)
  have HIZ := Lib.hid (info_rtr zl17)
  have HONZ := Lib.hid (rt_one zl17)
  have HF := Lib.hid (setRow_heap _ _ _ (rtV zl17) _ _ h0)
  have HBF : Hid (Below w.heap.size w ((w.alloc (.cells (rtV zl17) 40)).setRow w.heap.size (rtV zl17))) := Lib.hid (below_setRow ((Below.refl _ _).alloc (Nat.le_refl _) _) (Nat.le_refl _) _)
  have H0 := Lib.hid h0
  have HB0 : Hid (Below w.heap.size w (w.alloc (.cells (rtV zl17) 40))) := Lib.hid ((Below.refl _ _).alloc (Nat.le_refl _) _)
  obtain ⟨zz, hzz⟩ : ∃ z, z = rtV zl17 := ⟨_, rfl⟩
  rw [← hzz] at hz HIZ HONZ HF HBF H0 HB0
  have HZ := Lib.hid hzz
  have hzs : zz.size = 17 := by rw [hzz, rowV_size]
  clear hzz h0
  go_enter Try.func20, Try.ntmps20
  go_wp2_with (with_reducible refine wpList_store_row rfl 40 (.tmp 2) (.tmp 9) rfl _ _ rfl rfl 40 _ H0.out HIZ.out rfl HONZ.out ?_)
  exact bodyPost_ret (v := .tuple #[.agg zz, .bool false]) (results_row_tmp rfl _ _ _ 40 _ (0, 0) _ _ rfl rfl HF.out Try.underlying40 rfl HIZ.out) rfl ⟨by rw [HZ.out], HBF.out⟩
theorem cutS (b : List Nat) (s : Nat) : ((b.drop s).take 8).take 8 = (b.drop s).take 8 := by rw [List.take_take, Nat.min_self]
theorem one17_set : (rtV zl17).setIfInBounds 0 (.int .u64 1) = rtV one17 := by kernel_rfl
theorem headL_zero : headL zl17 = List.replicate 256 0 := by kernel_rfl
theorem str_head : str (List.replicate 256 0) = str (headL zl17) := by rw [headL_zero]
theorem yields_row17 {P : Program} {ops : Array Oper} {S : World → Prop} {o : Oper} {a : Act} (hw : Region.wanted o (yielded ops a.tmps) = true) (ty : TypeId) (x : Operand) (ho : o.op = .load ty x) (b off : Nat) (hx : a.eval x = .pointer (some ⟨b, off, none⟩)) (xs : Array Value) (d : TypeDesc)
    (hS : ∀ w, S w → w.rangeAt b off xs.toList) (hu : P.underlying ty = some d) (hd : d.isRow = true) (hi : (P.info? ty).map (·.size) = some xs.size) : YieldsIf P ops S o (.agg xs) a :=
  .inl ⟨hw, fun w h => by
    unfold execOp
    simp only [ho, hx, Instr.loadAt, Instr.sureAddr, Sem.run_bind, Sem.run_pure, Result.andThen_ok, run_loadVar_mid w b off ty xs.toList d (hS w h) hu hd (by simpa using hi), Array.toArray_toList]⟩
theorem range_row {w : World} {g : Nat} {xs : Array Value} {t : TypeId} {fr : Nat × Nat} (h : w.heap[g]? = some (.cells xs t fr)) : w.rangeAt g 0 xs.toList := fun j v hv => by
  rw [Nat.zero_add, cell_of_row w g j xs t fr h]
  simpa using hv
set_option maxHeartbeats 2000000 in
theorem rparse_256 (A : Option Addr) (c : Nat) (b v : List Nat) (er : Int) (w : World) (hs : BS w w.heap.size A 256 c b) (hv : ParseIs b v er) :
    Calls Try.prog 20 #[.slice A 256 c] w (RParseTo w v (er == 0)) := by
  have hz := zero_rtr
  obtain ⟨bb, oo, rfl, hbb, _⟩ := hs.at_ (by omega)
  have hcap := hs.cap
  obtain ⟨V, hV⟩ : ∃ V, V = w.alloc (.cells (rtV zl17) 40) := ⟨_, rfl⟩
  have hbV : Below w.heap.size w V := by rw [hV]; exact (Below.refl _ _).alloc (Nat.le_refl _) _
  have v1 : Row V w.heap.size 40 (uF zl17) 17 := by rw [hV]; exact Row.new w _ _ _
  have hlen := hs.len
  have HCUT : Hid (∀ W k, Below w.heap.size w W → k < 32 → BS W w.heap.size (some ⟨bb, oo + 8 * k, none⟩) 8 (c - 8 * k) ((b.drop (8 * k)).take 8)) := Lib.hid (fun W k hb hk => by
    have h1 := ((hs.below hb).drop (k := 8 * k) (by omega)).take (k := 8) (by omega)
    have e1 : (if c = 8 * k then some (⟨bb, oo, none⟩ : Addr) else (some (⟨bb, oo, none⟩ : Addr)).map (·.add (8 * k))) = some ⟨bb, oo + 8 * k, none⟩ := by
      rw [if_neg (by omega)]
      simp [Go.WideShapes.add_plain]
    rw [e1] at h1
    exact h1)
  have HGET : Hid (∀ W k, Below w.heap.size w W → k < 17 → Calls Try.prog 31 #[.slice (some ⟨bb, oo + 8 * k, none⟩) 8 (c - 8 * k)] W fun e w' => e = .returned (.int .u64 (((rdL b).getD k 0 : Nat) : Int)) ∧ W = w') := Lib.hid (fun W k hb hk => by
    have := refGet_any _ 8 _ _ W _ (HCUT.out W k hb (by omega))
    rw [cutS] at this
    rw [rdL_at b hk, rval_ok hlen (by omega)]
    exact this)
  have HG0 := Lib.hid (HGET.out V 0 hbV (by omega))
  rw [Nat.mul_zero, Nat.add_zero, Nat.sub_zero] at HG0
  obtain ⟨x0, hx0⟩ : ∃ x, (rdL b).getD 0 0 = x := ⟨_, rfl⟩
  rw [hx0] at HG0
  have h3 := heap_alloc_new V (.cells (rtV zl17) 40)
  have hszV : V.heap.size = w.heap.size + 1 := by rw [hV]; simp
  obtain ⟨W2, hW2⟩ : ∃ W2, W2 = (V.alloc (.cells (rtV zl17) 40)).setRow (w.heap.size + 1) ((rtV zl17).setIfInBounds 0 (.int .u64 (x0 : Int))) := ⟨_, rfl⟩
  rw [hszV] at h3
  have hb2 : Below V.heap.size V W2 := by rw [hW2]; exact below_setRow ((Below.refl _ _).alloc (Nat.le_refl _) _) (by omega) _
  have hr1 : Row W2 w.heap.size 40 (uF zl17) 17 := v1.below hb2 v1.lt
  have hr3 : Row W2 (w.heap.size + 1) 40 (mixL (rdL b) 0) 17 := by
    have := setRow_heap _ _ _ ((rtV zl17).setIfInBounds 0 (.int .u64 (x0 : Int))) _ _ h3
    rw [← hW2, mixL_new (rdL b) x0 hx0] at this
    exact this
  have H0 : Hid (RReadR w (w.heap.size + 1) b (.int .i64 0) W2) := Lib.hid ⟨0, rfl, by omega, hbV.trans (hb2.mono hbV.size), hr1, hr3⟩
  have HS := Lib.hid hs
  have H3 := Lib.hid h3
  have HV := Lib.hid hV
  have HW2 := Lib.hid hW2
  have HBY := Lib.hid hs.byte
  have HVL : Hid (ParseIs b v er) := Lib.hid hv
  obtain ⟨sB, hsB⟩ : ∃ z, z = str b := ⟨_, rfl⟩
  have HSB := Lib.hid hsB
  have HCB : Hid (∀ W, BS W w.heap.size (some ⟨bb, oo, none⟩) 256 c b → (convert 41 9 (.slice (some ⟨bb, oo, none⟩) 256 c)).run Try.prog W = .ok (.string sB) W) := Lib.hid (fun W h => by rw [conv_at h, hsB])
  clear hsB
  have HLB := Lib.hid hlen
  have HIZ := Lib.hid (info_rtr zl17)
  have HIY : Hid ((Try.prog.info? 40).map (·.size) = some ((rtV zl17).setIfInBounds 0 (.int .u64 (x0 : Int))).size) := Lib.hid (by rw [Array.size_setIfInBounds]; exact info_rtr zl17)
  have HSZ : Hid ((rtV zl17).size = ((rtV zl17).setIfInBounds 0 (.int .u64 (x0 : Int))).size) := Lib.hid (by simp)
  have HONY : Hid (((rtV zl17).setIfInBounds 0 (.int .u64 (x0 : Int))).all (·.oneCell') = true) := Lib.hid (by rw [rowV_set, Array.all_eq_true]; intro i hi; rw [rowV_size] at hi; have h2 := rowV_at (fun i => if i = 0 then Value.int IntKind.u64 (x0 : Int) else uF zl17 i) hi; rw [Array.getElem?_eq_getElem (by rw [rowV_size]; exact hi)] at h2; rw [Option.some.inj h2]; split <;> rfl)
  have HIR := Lib.hid (info_rtr (rdL b))
  have HSL : Hid ((rtV zl17).size = (rtV (rdL b)).size) := Lib.hid (by rw [rowV_size, rowV_size])
  have HONE := Lib.hid (rt_one (rdL b))
  have HONZ := Lib.hid (rt_one zl17)
  have HQ := Lib.hid (fun W => eq_r (rdL b) zl17 (rdL_len b) (by simp [zl17]) W)
  have HRI := Lib.hid (fun W => rright_any (rdL b) (rdL_64 hs.byte) W)
  have HRB := Lib.hid (fun W => rhead_any (rdL b) (rdL_len b) (rdL_64 hs.byte) W)
  clear hV hbV v1 hs hv hx0 h3 hszV hW2 hb2 hr1 hr3 hlen
  obtain ⟨zz, hzz⟩ : ∃ z, z = rtV zl17 := ⟨_, rfl⟩
  obtain ⟨rt, hrt⟩ : ∃ z, z = rtV (rdL b) := ⟨_, rfl⟩
  have hzs : zz.size = 17 := by rw [hzz, rowV_size]
  have hzne : ¬ zz = #[] := fun h => by rw [h] at hzs; simp at hzs
  rw [← hzz] at hz HV HIZ HSL HONZ HQ HIY HSZ HONY H3 HW2
  rw [← hrt] at HIR HSL HONE HQ HRI HRB
  have HZ := Lib.hid hzz
  have HRT := Lib.hid hrt
  clear hzz hrt
  rw [HV.out] at HG0 H3
  go_enter Try.func20, Try.ntmps20
  go_wp2_with fail
  refine HG0.out.mono ?_
  rintro e w' ⟨rfl, rfl⟩
  go_wp2_with (with_reducible refine wpList_store_row rfl 40 (.tmp 4) (.tmp 13) rfl _ _ rfl rfl 40 _ H3.out HIY.out HSZ.out HONY.out ?_)
  rw [← HV.out, ← HW2.out]
  clear HV HW2 H3 HIY HSZ HONY HG0
  go_loopw [14] (fun i wr => RReadR w (w.heap.size + 1) b i wr) (fun i _ => (16 - intOf i).toNat)
  case atStart => exact H0.out
  case round =>
    obtain ⟨k, rfl, hk, hb, hr1, hr2⟩ := hrel
    by_cases hlt : k < 16
    · have HG := Lib.hid (HGET.out wr (k + 1) hb (by omega))
      have hst := mixL_step hr2 hlt
      have hc := hr2.cell (i := 1 + k) (by omega)
      have hf := hr2.free (1 + k)
      obtain ⟨old, hold⟩ : ∃ z, z = mixL (rdL b) k (1 + k) := ⟨_, rfl⟩
      rw [← hold] at hc
      obtain ⟨x, hx⟩ : ∃ x, x = (rdL b).getD (k + 1) 0 := ⟨_, rfl⟩
      rw [← hx] at hst HG
      have HN : Hid (RReadR w (w.heap.size + 1) b (.int .i64 ((k : Int) + 1)) (wr.setCell ⟨w.heap.size + 1, 1 + k, none⟩ (.int .u64 (x : Int)))) :=
        Lib.hid ⟨k + 1, by simp, by omega, hb.setCell (p := ⟨w.heap.size + 1, 1 + k, none⟩) (by simp) _, hr1.far (p := ⟨w.heap.size + 1, 1 + k, none⟩) (by simp) _, hst⟩
      have q3 : (8 : Int) + 8 * (k : Int) = ((8 * (k + 1) : Nat) : Int) := by omega
      have q4 : (16 : Int) + 8 * (k : Int) = ((8 * (k + 1) + 8 : Nat) : Int) := by omega
      have hs8 : 8 * (k + 1) + 8 ≤ 256 := by omega
      generalize 8 * (k + 1) = s at *
      have hc1 : s ≤ c := by omega
      have hc2 : s + 8 ≤ c := by omega
      clear hst hold hx hr1 hr2 hb H0
      go_wp2_with fail
      refine HG.out.mono ?_
      rintro e w' ⟨rfl, rfl⟩
      go_wp2
      go_roundw
      case rel => exact HN.out
      case measure => simp [intOf]; omega
    · obtain rfl : k = 16 := by omega
      have hr2' := mixL_end hr2
      have HK : Hid (∀ W, Below wr.heap.size wr W → (fun w' => w'.heap[w.heap.size + 1]? = some (.cells rt 40 (0, 0)) ∧ (convert 41 9 (.slice (some ⟨bb, oo, none⟩) 256 c)).run Try.prog w' = .ok (.string sB) w' ∧ Below w.heap.size w w' ∧ w'.heap[w.heap.size]? = some (.cells zz 40 (0, 0)) ∧ Below wr.heap.size wr w') W) := Lib.hid (fun W hW => ⟨by rw [HRT.out]; exact hr2'.below hW hr2'.lt, HCB.out _ (HS.out.below (hb.trans (hW.mono hb.size))), hb.trans (hW.mono hb.size), by rw [HZ.out]; exact hr1.below hW hr1.lt, hW⟩)
      clear hb hr1 hr2 hr2' H0 HGET HCUT
      have hq := HQ.out
      by_cases hzl : rdL b = zl17
      · rw [decide_eq_true hzl] at hq
        have HRI2 : Hid (∀ W, Calls Try.prog 18 #[.agg rt] W fun e w' => e = .returned (.bool false) ∧ Below W.heap.size W w') := Lib.hid (fun W => by have := HRI.out W; rw [hzl, decide_eq_false (fun h : RMay zl17 => by have := h.1; rw [zl17_at] at this; omega)] at this; exact this)
        obtain ⟨sZ, hsZ⟩ : ∃ z, z = str (headL zl17) := ⟨_, rfl⟩
        have hcvz : (convert 41 9 (.slice (some ⟨wr.heap.size, 0, none⟩) 256 256)).run Try.prog (wr.alloc (.cells (zeros 256) 5)).drew = .ok (.string sZ) (wr.alloc (.cells (zeros 256) 5)).drew := by
          obtain ⟨W, hW⟩ : ∃ W, W = wr := ⟨_, rfl⟩
          rw [← hW]
          have h1 : BS (W.alloc (.cells (zeros 256) 5)) (W.alloc (.cells (zeros 256) 5)).heap.size (some ⟨W.heap.size, 0, none⟩) 256 256 (List.replicate 256 0) :=
            BS.of_blk (heap_alloc_new W _) (by simp) (by simp) (Nat.le_refl _) (by omega) (fun i => by rw [List.getD_eq_getElem?_getD, List.getElem?_replicate]; split <;> decide) (fun i hi => by rw [zeros_at hi, List.getD_eq_getElem?_getD, List.getElem?_replicate, if_pos hi]; rfl)
          rw [conv_at h1.dr, str_head, hsZ]
        have hmk := make_bytes 256 (by omega)
        rw [show ((256 : Nat) : Int) = 256 from rfl] at hmk
        by_cases hhd : headL zl17 = b
        · have hqs : (sB.toList == sZ.toList) = true := by rw [HSB.out, hsZ, hhd]; exact beq_self_eq_true _
          have hqs2 : sB = sZ := by rw [HSB.out, hsZ, hhd]
          have HVV : Hid (v = one17 ∧ er = 0) := Lib.hid (by
            have hI : IsHead b := ⟨HLB.out, .inl hzl, by rw [hzl]; exact hhd⟩
            rcases HVL.out with ⟨h, _⟩ | ⟨_, _, h1, h2⟩ | ⟨_, h, _⟩
            · exact absurd hI h
            · exact ⟨h1, h2⟩
            · exact absurd hzl h)
          have HOO : Hid (zz.setIfInBounds 0 (.int .u64 1) = rtV one17) := Lib.hid (by rw [HZ.out, one17_set])
          have HIO : Hid ((Try.prog.info? 40).map (·.size) = some (zz.setIfInBounds 0 (.int .u64 1)).size) := Lib.hid (by rw [HOO.out]; exact info_rtr one17)
          have HONO : Hid ((zz.setIfInBounds 0 (.int .u64 1)).all (·.oneCell') = true) := Lib.hid (by rw [HOO.out]; exact rt_one one17)
          have HSO : Hid (zz.size = (zz.setIfInBounds 0 (.int .u64 1)).size) := Lib.hid (by simp)
          clear hsZ hzl hhd
          go_wp2
          refine wp_region_F (S := (fun w' => w'.heap[w.heap.size + 1]? = some (.cells rt 40 (0, 0)) ∧ (convert 41 9 (.slice (some ⟨bb, oo, none⟩) 256 c)).run Try.prog w' = .ok (.string sB) w' ∧ Below w.heap.size w w' ∧ w'.heap[w.heap.size]? = some (.cells zz 40 (0, 0)) ∧ Below wr.heap.size wr w')) [] (by kernel_rfl) (HK.out _ ((Below.refl _ _).drew)) (fun hHeld => ?_)
          refine wpAnyF_take (i := 0) (oi := _) (v := _) rfl (by kernel_rfl) (by kernel_rfl) (by kernel_rfl) (by kernel_rfl) (fun _ _ _ h => h) (yields_row17 (by rfl) 40 (.tmp 4) rfl (w.heap.size + 1) 0 rfl rt _ (fun W h => range_row h.1) Try.underlying40 rfl HIR.out) (by assumption) ?_
          (try simp only [Act.put, List.getElem_toArray, List.getElem_cons_succ, List.getElem_cons_zero, List.setIfInBounds_toArray, List.set_cons_zero, List.set_cons_succ])
          refine wpAnyF_take (i := 1) (oi := _) (v := ?_) rfl (by kernel_rfl) (by kernel_rfl) (by kernel_rfl) (by kernel_rfl) (fun _ _ _ h => h) (Or.inl ⟨by rfl, ?_⟩) (by assumption) ?_
          rotate_left 1
          · intro w hSw
            (try dsimp only at hSw)
            (first | (go_simp; done) | (go_simp; with_reducible rfl))
          (try simp only [Act.put, List.getElem_toArray, List.getElem_cons_succ, List.getElem_cons_zero, List.setIfInBounds_toArray, List.set_cons_zero, List.set_cons_succ])
          refine wpAnyF_take (i := 2) (oi := _) (v := ?_) rfl (by kernel_rfl) (by kernel_rfl) (by kernel_rfl) (by kernel_rfl) (fun _ _ _ h => h) (Or.inl ⟨by rfl, ?_⟩) (by assumption) ?_
          rotate_left 1
          · intro w hSw
            (try dsimp only at hSw)
            (first | (go_simp; done) | (go_simp; with_reducible rfl))
          (try simp only [Act.put, List.getElem_toArray, List.getElem_cons_succ, List.getElem_cons_zero, List.setIfInBounds_toArray, List.set_cons_zero, List.set_cons_succ])
          refine wpAnyF_take (i := 3) (oi := _) (v := ?_) rfl (by kernel_rfl) (by kernel_rfl) (by kernel_rfl) (by kernel_rfl) (fun _ _ _ h => h) (Or.inl ⟨by rfl, ?_⟩) (by assumption) ?_
          rotate_left 1
          · intro w hSw
            (try dsimp only at hSw)
            (first | (go_simp; done) | (go_simp; with_reducible rfl))
          (try simp only [Act.put, List.getElem_toArray, List.getElem_cons_succ, List.getElem_cons_zero, List.setIfInBounds_toArray, List.set_cons_zero, List.set_cons_succ])
          refine wpAnyF_take (i := 4) (oi := _) (v := ?_) rfl (by kernel_rfl) (by kernel_rfl) (by kernel_rfl) (by kernel_rfl) (fun _ _ _ h => h) (Or.inl ⟨by rfl, ?_⟩) (by assumption) ?_
          rotate_left 1
          · intro w hSw
            (try dsimp only at hSw)
            (first | (go_simp; done) | (go_simp; with_reducible rfl))
          (try simp only [Act.put, List.getElem_toArray, List.getElem_cons_succ, List.getElem_cons_zero, List.setIfInBounds_toArray, List.set_cons_zero, List.set_cons_succ])
          refine wpAnyF_take (i := 5) (oi := _) (v := ?_) rfl (by kernel_rfl) (by kernel_rfl) (by kernel_rfl) (by kernel_rfl) (fun _ _ _ h => h) (Or.inl ⟨by rfl, ?_⟩) (by assumption) ?_
          rotate_left 1
          · intro w hSw
            (try dsimp only at hSw)
            (first | (go_simp; done) | (go_simp; with_reducible rfl))
          (try simp only [Act.put, List.getElem_toArray, List.getElem_cons_succ, List.getElem_cons_zero, List.setIfInBounds_toArray, List.set_cons_zero, List.set_cons_succ])
          refine wpAnyF_ready (rs := [6]) (by kernel_rfl) (by simp) ?_
          refine AllReadyF.cons (o := _) rfl (fun K hK => ?_) AllReadyF.nil
          go_simp
          refine hK.out _ _ (HK.out _ ((hHeld.2.2.2.2).alloc hHeld.2.2.2.2.size _)) (fun hHeld6 => ?_)
          clear hK K
          (try simp only [Act.put, List.getElem_toArray, List.getElem_cons_succ, List.getElem_cons_zero, List.setIfInBounds_toArray, List.set_cons_zero, List.set_cons_succ])
          refine wpAnyF_ready (rs := [7]) (by kernel_rfl) (by simp) ?_
          refine AllReadyF.cons (o := _) rfl (fun K hK => ?_) AllReadyF.nil
          go_simp
          refine hK.out _ _ (by assumption) (fun hHeld7 => ?_)
          clear hK K
          (try simp only [Act.put, List.getElem_toArray, List.getElem_cons_succ, List.getElem_cons_zero, List.setIfInBounds_toArray, List.set_cons_zero, List.set_cons_succ])
          refine wpAnyF_ready (rs := [8]) (by kernel_rfl) (by simp) ?_
          refine AllReadyF.cons (o := _) rfl (fun K hK => ?_) AllReadyF.nil
          go_simp
          refine hK.out _ _ (by assumption) (fun hHeld8 => ?_)
          clear hK K
          (try simp only [Act.put, List.getElem_toArray, List.getElem_cons_succ, List.getElem_cons_zero, List.setIfInBounds_toArray, List.set_cons_zero, List.set_cons_succ])
          refine wpAnyF_ready (rs := [9]) (by kernel_rfl) (by simp) ?_
          refine AllReadyF.cons (o := _) rfl (fun K hK => ?_) AllReadyF.nil
          go_simp
          refine hK.out _ _ (by assumption) (fun hHeld9 => ?_)
          clear hK K
          (try simp only [Act.put, List.getElem_toArray, List.getElem_cons_succ, List.getElem_cons_zero, List.setIfInBounds_toArray, List.set_cons_zero, List.set_cons_succ])
          refine wpAnyF_done (by kernel_rfl) ?_ _
          have HHX := hHeld9
          clear hHeld hHeld6 hHeld7 hHeld8 hHeld9
          have HF := Lib.hid (setRow_heap _ _ _ (zz.setIfInBounds 0 (.int .u64 1)) _ _ HHX.2.2.2.1)
          have HBF := Lib.hid (below_setRow HHX.2.2.1 (Nat.le_refl _) (zz.setIfInBounds 0 (.int .u64 1)))
          have HZZ := Lib.hid HHX.2.2.2.1
          go_wp2_with (with_reducible refine wpList_store_row rfl 40 (.tmp 2) (.tmp 40) rfl _ _ rfl rfl 40 _ HZZ.out HIO.out HSO.out HONO.out ?_)
          exact bodyPost_ret (v := .tuple #[.agg (zz.setIfInBounds 0 (.int .u64 1)), .bool true]) (results_row_tmp rfl _ _ _ 40 _ (0, 0) _ _ rfl rfl HF.out Try.underlying40 rfl HIO.out) rfl ⟨by rw [HVV.out.1, HVV.out.2, HOO.out]; rfl, HBF.out⟩
        · have hsne : ¬ sB = sZ := fun h => hhd (str_inj (headL_byte _) HBY.out (by rw [← hsZ, ← HSB.out, h]))
          have hqs : (sB.toList == sZ.toList) = false := by rw [HSB.out, hsZ]; exact str_ne HBY.out (headL_byte _) (fun h => hhd h.symm)
          have HVV : Hid (v = zl17 ∧ er = 4) := Lib.hid (by
            rcases HVL.out with ⟨_, h1, h2⟩ | ⟨h, _⟩ | ⟨_, h, _⟩
            · exact ⟨h1, h2⟩
            · exact absurd (by have := h.2.2; rw [hzl] at this; exact this) hhd
            · exact absurd hzl h)
          clear hsZ hzl hhd
          go_wp2
          refine wp_region_F (S := (fun w' => w'.heap[w.heap.size + 1]? = some (.cells rt 40 (0, 0)) ∧ (convert 41 9 (.slice (some ⟨bb, oo, none⟩) 256 c)).run Try.prog w' = .ok (.string sB) w' ∧ Below w.heap.size w w' ∧ w'.heap[w.heap.size]? = some (.cells zz 40 (0, 0)) ∧ Below wr.heap.size wr w')) [] (by kernel_rfl) (HK.out _ ((Below.refl _ _).drew)) (fun hHeld => ?_)
          refine wpAnyF_take (i := 0) (oi := _) (v := _) rfl (by kernel_rfl) (by kernel_rfl) (by kernel_rfl) (by kernel_rfl) (fun _ _ _ h => h) (yields_row17 (by rfl) 40 (.tmp 4) rfl (w.heap.size + 1) 0 rfl rt _ (fun W h => range_row h.1) Try.underlying40 rfl HIR.out) (by assumption) ?_
          (try simp only [Act.put, List.getElem_toArray, List.getElem_cons_succ, List.getElem_cons_zero, List.setIfInBounds_toArray, List.set_cons_zero, List.set_cons_succ])
          refine wpAnyF_take (i := 1) (oi := _) (v := ?_) rfl (by kernel_rfl) (by kernel_rfl) (by kernel_rfl) (by kernel_rfl) (fun _ _ _ h => h) (Or.inl ⟨by rfl, ?_⟩) (by assumption) ?_
          rotate_left 1
          · intro w hSw
            (try dsimp only at hSw)
            (first | (go_simp; done) | (go_simp; with_reducible rfl))
          (try simp only [Act.put, List.getElem_toArray, List.getElem_cons_succ, List.getElem_cons_zero, List.setIfInBounds_toArray, List.set_cons_zero, List.set_cons_succ])
          refine wpAnyF_take (i := 2) (oi := _) (v := ?_) rfl (by kernel_rfl) (by kernel_rfl) (by kernel_rfl) (by kernel_rfl) (fun _ _ _ h => h) (Or.inl ⟨by rfl, ?_⟩) (by assumption) ?_
          rotate_left 1
          · intro w hSw
            (try dsimp only at hSw)
            (first | (go_simp; done) | (go_simp; with_reducible rfl))
          (try simp only [Act.put, List.getElem_toArray, List.getElem_cons_succ, List.getElem_cons_zero, List.setIfInBounds_toArray, List.set_cons_zero, List.set_cons_succ])
          refine wpAnyF_take (i := 3) (oi := _) (v := ?_) rfl (by kernel_rfl) (by kernel_rfl) (by kernel_rfl) (by kernel_rfl) (fun _ _ _ h => h) (Or.inl ⟨by rfl, ?_⟩) (by assumption) ?_
          rotate_left 1
          · intro w hSw
            (try dsimp only at hSw)
            (first | (go_simp; done) | (go_simp; with_reducible rfl))
          (try simp only [Act.put, List.getElem_toArray, List.getElem_cons_succ, List.getElem_cons_zero, List.setIfInBounds_toArray, List.set_cons_zero, List.set_cons_succ])
          refine wpAnyF_take (i := 4) (oi := _) (v := ?_) rfl (by kernel_rfl) (by kernel_rfl) (by kernel_rfl) (by kernel_rfl) (fun _ _ _ h => h) (Or.inl ⟨by rfl, ?_⟩) (by assumption) ?_
          rotate_left 1
          · intro w hSw
            (try dsimp only at hSw)
            (first | (go_simp; done) | (go_simp; with_reducible rfl))
          (try simp only [Act.put, List.getElem_toArray, List.getElem_cons_succ, List.getElem_cons_zero, List.setIfInBounds_toArray, List.set_cons_zero, List.set_cons_succ])
          refine wpAnyF_take (i := 5) (oi := _) (v := ?_) rfl (by kernel_rfl) (by kernel_rfl) (by kernel_rfl) (by kernel_rfl) (fun _ _ _ h => h) (Or.inl ⟨by rfl, ?_⟩) (by assumption) ?_
          rotate_left 1
          · intro w hSw
            (try dsimp only at hSw)
            (first | (go_simp; done) | (go_simp; with_reducible rfl))
          (try simp only [Act.put, List.getElem_toArray, List.getElem_cons_succ, List.getElem_cons_zero, List.setIfInBounds_toArray, List.set_cons_zero, List.set_cons_succ])
          refine wpAnyF_ready (rs := [6]) (by kernel_rfl) (by simp) ?_
          refine AllReadyF.cons (o := _) rfl (fun K hK => ?_) AllReadyF.nil
          go_simp
          refine hK.out _ _ (HK.out _ ((hHeld.2.2.2.2).alloc hHeld.2.2.2.2.size _)) (fun hHeld6 => ?_)
          clear hK K
          (try simp only [Act.put, List.getElem_toArray, List.getElem_cons_succ, List.getElem_cons_zero, List.setIfInBounds_toArray, List.set_cons_zero, List.set_cons_succ])
          refine wpAnyF_ready (rs := [7]) (by kernel_rfl) (by simp) ?_
          refine AllReadyF.cons (o := _) rfl (fun K hK => ?_) AllReadyF.nil
          go_simp
          refine hK.out _ _ (by assumption) (fun hHeld7 => ?_)
          clear hK K
          (try simp only [Act.put, List.getElem_toArray, List.getElem_cons_succ, List.getElem_cons_zero, List.setIfInBounds_toArray, List.set_cons_zero, List.set_cons_succ])
          refine wpAnyF_ready (rs := [8]) (by kernel_rfl) (by simp) ?_
          refine AllReadyF.cons (o := _) rfl (fun K hK => ?_) AllReadyF.nil
          go_simp
          refine hK.out _ _ (by assumption) (fun hHeld8 => ?_)
          clear hK K
          (try simp only [Act.put, List.getElem_toArray, List.getElem_cons_succ, List.getElem_cons_zero, List.setIfInBounds_toArray, List.set_cons_zero, List.set_cons_succ])
          refine wpAnyF_ready (rs := [9]) (by kernel_rfl) (by simp) ?_
          refine AllReadyF.cons (o := _) rfl (fun K hK => ?_) AllReadyF.nil
          go_simp
          refine hK.out _ _ (by assumption) (fun hHeld9 => ?_)
          clear hK K
          (try simp only [Act.put, List.getElem_toArray, List.getElem_cons_succ, List.getElem_cons_zero, List.setIfInBounds_toArray, List.set_cons_zero, List.set_cons_succ])
          refine wpAnyF_done (by kernel_rfl) ?_ _
          have HHY := hHeld9
          clear hHeld hHeld6 hHeld7 hHeld8 hHeld9
          go_wp2
          refine wp_region_F (S := (fun w' => w'.heap[w.heap.size + 1]? = some (.cells rt 40 (0, 0)) ∧ (convert 41 9 (.slice (some ⟨bb, oo, none⟩) 256 c)).run Try.prog w' = .ok (.string sB) w' ∧ Below w.heap.size w w' ∧ w'.heap[w.heap.size]? = some (.cells zz 40 (0, 0)) ∧ Below wr.heap.size wr w')) [] (by kernel_rfl) (HK.out _ (HHY.2.2.2.2.drew)) (fun hHeld => ?_)
          refine wpAnyF_take (i := 0) (oi := _) (v := _) rfl (by kernel_rfl) (by kernel_rfl) (by kernel_rfl) (by kernel_rfl) (fun _ _ _ h => h) (yields_row17 (by rfl) 40 (.tmp 4) rfl (w.heap.size + 1) 0 rfl rt _ (fun W h => range_row h.1) Try.underlying40 rfl HIR.out) (by assumption) ?_
          (try simp only [Act.put, List.getElem_toArray, List.getElem_cons_succ, List.getElem_cons_zero, List.setIfInBounds_toArray, List.set_cons_zero, List.set_cons_succ])
          refine wpAnyF_ready (rs := [1]) (by kernel_rfl) (by simp) ?_
          refine AllReadyF.cons (o := _) rfl (fun K hK => ?_) AllReadyF.nil
          go_simp
          (go_at_call 18)
          refine (HRI2.out _).mono ?_
          rintro e w5 ⟨rfl, hb5⟩
          refine hK.out _ _ (HK.out _ (hHeld.2.2.2.2.trans (hb5.mono hHeld.2.2.2.2.size))) (fun hHeld1 => ?_)
          clear hK K
          (try simp only [Act.put, List.getElem_toArray, List.getElem_cons_succ, List.getElem_cons_zero, List.setIfInBounds_toArray, List.set_cons_zero, List.set_cons_succ])
          refine wpAnyF_take (i := 2) (oi := _) (v := ?_) rfl (by kernel_rfl) (by kernel_rfl) (by kernel_rfl) (by kernel_rfl) (fun _ _ _ h => h) (Or.inl ⟨by rfl, ?_⟩) (by assumption) ?_
          rotate_left 1
          · intro w hSw
            (try dsimp only at hSw)
            (first | (go_simp; done) | (go_simp; with_reducible rfl))
          (try simp only [Act.put, List.getElem_toArray, List.getElem_cons_succ, List.getElem_cons_zero, List.setIfInBounds_toArray, List.set_cons_zero, List.set_cons_succ])
          refine wpAnyF_take (i := 3) (oi := _) (v := ?_) rfl (by kernel_rfl) (by kernel_rfl) (by kernel_rfl) (by kernel_rfl) (fun _ _ _ h => h) (Or.inl ⟨by rfl, ?_⟩) (by assumption) ?_
          rotate_left 1
          · intro w hSw
            (try dsimp only at hSw)
            (first | (go_simp; done) | (go_simp; with_reducible rfl))
          (try simp only [Act.put, List.getElem_toArray, List.getElem_cons_succ, List.getElem_cons_zero, List.setIfInBounds_toArray, List.set_cons_zero, List.set_cons_succ])
          refine wpAnyF_take (i := 4) (oi := _) (v := undef) rfl (by kernel_rfl) (by kernel_rfl) (by kernel_rfl) (by kernel_rfl) (fun _ _ _ h => h) (Or.inr ⟨by rfl, rfl⟩) (by assumption) ?_
          (try simp only [Act.put, List.getElem_toArray, List.getElem_cons_succ, List.getElem_cons_zero, List.setIfInBounds_toArray, List.set_cons_zero, List.set_cons_succ])
          refine wpAnyF_take (i := 5) (oi := _) (v := undef) rfl (by kernel_rfl) (by kernel_rfl) (by kernel_rfl) (by kernel_rfl) (fun _ _ _ h => h) (Or.inr ⟨by rfl, rfl⟩) (by assumption) ?_
          (try simp only [Act.put, List.getElem_toArray, List.getElem_cons_succ, List.getElem_cons_zero, List.setIfInBounds_toArray, List.set_cons_zero, List.set_cons_succ])
          refine wpAnyF_take (i := 6) (oi := _) (v := undef) rfl (by kernel_rfl) (by kernel_rfl) (by kernel_rfl) (by kernel_rfl) (fun _ _ _ h => h) (Or.inr ⟨by rfl, rfl⟩) (by assumption) ?_
          (try simp only [Act.put, List.getElem_toArray, List.getElem_cons_succ, List.getElem_cons_zero, List.setIfInBounds_toArray, List.set_cons_zero, List.set_cons_succ])
          refine wpAnyF_take (i := 7) (oi := _) (v := undef) rfl (by kernel_rfl) (by kernel_rfl) (by kernel_rfl) (by kernel_rfl) (fun _ _ _ h => h) (Or.inr ⟨by rfl, rfl⟩) (by assumption) ?_
          (try simp only [Act.put, List.getElem_toArray, List.getElem_cons_succ, List.getElem_cons_zero, List.setIfInBounds_toArray, List.set_cons_zero, List.set_cons_succ])
          refine wpAnyF_take (i := 8) (oi := _) (v := undef) rfl (by kernel_rfl) (by kernel_rfl) (by kernel_rfl) (by kernel_rfl) (fun _ _ _ h => h) (Or.inr ⟨by rfl, rfl⟩) (by assumption) ?_
          (try simp only [Act.put, List.getElem_toArray, List.getElem_cons_succ, List.getElem_cons_zero, List.setIfInBounds_toArray, List.set_cons_zero, List.set_cons_succ])
          refine wpAnyF_take (i := 9) (oi := _) (v := undef) rfl (by kernel_rfl) (by kernel_rfl) (by kernel_rfl) (by kernel_rfl) (fun _ _ _ h => h) (Or.inr ⟨by rfl, rfl⟩) (by assumption) ?_
          (try simp only [Act.put, List.getElem_toArray, List.getElem_cons_succ, List.getElem_cons_zero, List.setIfInBounds_toArray, List.set_cons_zero, List.set_cons_succ])
          refine wpAnyF_take (i := 10) (oi := _) (v := ?_) rfl (by kernel_rfl) (by kernel_rfl) (by kernel_rfl) (by kernel_rfl) (fun _ _ _ h => h) (Or.inl ⟨by rfl, ?_⟩) (by assumption) ?_
          rotate_left 1
          · intro w hSw
            (try dsimp only at hSw)
            (first | (go_simp; done) | (go_simp; with_reducible rfl))
          (try simp only [Act.put, List.getElem_toArray, List.getElem_cons_succ, List.getElem_cons_zero, List.setIfInBounds_toArray, List.set_cons_zero, List.set_cons_succ])
          refine wpAnyF_done (by kernel_rfl) ?_ _
          have HHX := hHeld1
          clear hHeld hHeld1
          have HF := Lib.hid (setRow_heap _ _ _ zz _ _ HHX.2.2.2.1)
          have HBF := Lib.hid (below_setRow HHX.2.2.1 (Nat.le_refl _) zz)
          have HZZ := Lib.hid HHX.2.2.2.1
          go_wp2_with (with_reducible refine wpList_store_row rfl 40 (.tmp 2) (.tmp 52) rfl _ _ rfl rfl 40 _ HZZ.out HIZ.out rfl HONZ.out ?_)
          exact bodyPost_ret (v := .tuple #[.agg zz, .bool false]) (results_row_tmp rfl _ _ _ 40 _ (0, 0) _ _ rfl rfl HF.out Try.underlying40 rfl HIZ.out) rfl ⟨by rw [HVV.out.1, HVV.out.2, HZ.out]; rfl, HBF.out⟩
      · rw [decide_eq_false hzl] at hq
        by_cases hm : RMay (rdL b)
        · have HRI2 : Hid (∀ W, Calls Try.prog 18 #[.agg rt] W fun e w' => e = .returned (.bool true) ∧ Below W.heap.size W w') := Lib.hid (fun W => by have := HRI.out W; rw [decide_eq_true hm] at this; exact this)
          obtain ⟨sA, hsA⟩ : ∃ z, z = str (headL (rdL b)) := ⟨_, rfl⟩
          have HSA : Hid (str (headL (rdL b)) = sA) := Lib.hid hsA.symm
          by_cases hhd : headL (rdL b) = b
          · have hqs2 : sA = sB := by rw [HSB.out, hsA, hhd]
            have HVV : Hid (v = rdL b ∧ er = 0) := Lib.hid (by
              have hI : IsHead b := ⟨HLB.out, .inr hm, hhd⟩
              rcases HVL.out with ⟨h, _⟩ | ⟨_, h, _⟩ | ⟨_, _, h1, h2⟩
              · exact absurd hI h
              · exact absurd h hzl
              · exact ⟨h1, h2⟩)
            clear hsA hzl hhd hm
            go_wp2
            refine wp_region_F (S := (fun w' => w'.heap[w.heap.size + 1]? = some (.cells rt 40 (0, 0)) ∧ (convert 41 9 (.slice (some ⟨bb, oo, none⟩) 256 c)).run Try.prog w' = .ok (.string sB) w' ∧ Below w.heap.size w w' ∧ w'.heap[w.heap.size]? = some (.cells zz 40 (0, 0)) ∧ Below wr.heap.size wr w')) [] (by kernel_rfl) (HK.out _ ((Below.refl _ _).drew)) (fun hHeld => ?_)
            refine wpAnyF_take (i := 0) (oi := _) (v := _) rfl (by kernel_rfl) (by kernel_rfl) (by kernel_rfl) (by kernel_rfl) (fun _ _ _ h => h) (yields_row17 (by rfl) 40 (.tmp 4) rfl (w.heap.size + 1) 0 rfl rt _ (fun W h => range_row h.1) Try.underlying40 rfl HIR.out) (by assumption) ?_
            (try simp only [Act.put, List.getElem_toArray, List.getElem_cons_succ, List.getElem_cons_zero, List.setIfInBounds_toArray, List.set_cons_zero, List.set_cons_succ])
            refine wpAnyF_take (i := 1) (oi := _) (v := ?_) rfl (by kernel_rfl) (by kernel_rfl) (by kernel_rfl) (by kernel_rfl) (fun _ _ _ h => h) (Or.inl ⟨by rfl, ?_⟩) (by assumption) ?_
            rotate_left 1
            · intro w hSw
              (try dsimp only at hSw)
              (first | (go_simp; done) | (go_simp; with_reducible rfl))
            (try simp only [Act.put, List.getElem_toArray, List.getElem_cons_succ, List.getElem_cons_zero, List.setIfInBounds_toArray, List.set_cons_zero, List.set_cons_succ])
            refine wpAnyF_take (i := 2) (oi := _) (v := ?_) rfl (by kernel_rfl) (by kernel_rfl) (by kernel_rfl) (by kernel_rfl) (fun _ _ _ h => h) (Or.inl ⟨by rfl, ?_⟩) (by assumption) ?_
            rotate_left 1
            · intro w hSw
              (try dsimp only at hSw)
              (first | (go_simp; done) | (go_simp; with_reducible rfl))
            (try simp only [Act.put, List.getElem_toArray, List.getElem_cons_succ, List.getElem_cons_zero, List.setIfInBounds_toArray, List.set_cons_zero, List.set_cons_succ])
            refine wpAnyF_take (i := 3) (oi := _) (v := ?_) rfl (by kernel_rfl) (by kernel_rfl) (by kernel_rfl) (by kernel_rfl) (fun _ _ _ h => h) (Or.inl ⟨by rfl, ?_⟩) (by assumption) ?_
            rotate_left 1
            · intro w hSw
              (try dsimp only at hSw)
              (first | (go_simp; done) | (go_simp; with_reducible rfl))
            (try simp only [Act.put, List.getElem_toArray, List.getElem_cons_succ, List.getElem_cons_zero, List.setIfInBounds_toArray, List.set_cons_zero, List.set_cons_succ])
            refine wpAnyF_take (i := 4) (oi := _) (v := undef) rfl (by kernel_rfl) (by kernel_rfl) (by kernel_rfl) (by kernel_rfl) (fun _ _ _ h => h) (Or.inr ⟨by rfl, rfl⟩) (by assumption) ?_
            (try simp only [Act.put, List.getElem_toArray, List.getElem_cons_succ, List.getElem_cons_zero, List.setIfInBounds_toArray, List.set_cons_zero, List.set_cons_succ])
            refine wpAnyF_take (i := 5) (oi := _) (v := undef) rfl (by kernel_rfl) (by kernel_rfl) (by kernel_rfl) (by kernel_rfl) (fun _ _ _ h => h) (Or.inr ⟨by rfl, rfl⟩) (by assumption) ?_
            (try simp only [Act.put, List.getElem_toArray, List.getElem_cons_succ, List.getElem_cons_zero, List.setIfInBounds_toArray, List.set_cons_zero, List.set_cons_succ])
            refine wpAnyF_take (i := 6) (oi := _) (v := undef) rfl (by kernel_rfl) (by kernel_rfl) (by kernel_rfl) (by kernel_rfl) (fun _ _ _ h => h) (Or.inr ⟨by rfl, rfl⟩) (by assumption) ?_
            (try simp only [Act.put, List.getElem_toArray, List.getElem_cons_succ, List.getElem_cons_zero, List.setIfInBounds_toArray, List.set_cons_zero, List.set_cons_succ])
            refine wpAnyF_take (i := 7) (oi := _) (v := undef) rfl (by kernel_rfl) (by kernel_rfl) (by kernel_rfl) (by kernel_rfl) (fun _ _ _ h => h) (Or.inr ⟨by rfl, rfl⟩) (by assumption) ?_
            (try simp only [Act.put, List.getElem_toArray, List.getElem_cons_succ, List.getElem_cons_zero, List.setIfInBounds_toArray, List.set_cons_zero, List.set_cons_succ])
            refine wpAnyF_take (i := 8) (oi := _) (v := undef) rfl (by kernel_rfl) (by kernel_rfl) (by kernel_rfl) (by kernel_rfl) (fun _ _ _ h => h) (Or.inr ⟨by rfl, rfl⟩) (by assumption) ?_
            (try simp only [Act.put, List.getElem_toArray, List.getElem_cons_succ, List.getElem_cons_zero, List.setIfInBounds_toArray, List.set_cons_zero, List.set_cons_succ])
            refine wpAnyF_take (i := 9) (oi := _) (v := ?_) rfl (by kernel_rfl) (by kernel_rfl) (by kernel_rfl) (by kernel_rfl) (fun _ _ _ h => h) (Or.inl ⟨by rfl, ?_⟩) (by assumption) ?_
            rotate_left 1
            · intro w hSw
              (try dsimp only at hSw)
              (first | (go_simp; done) | (go_simp; with_reducible rfl))
            (try simp only [Act.put, List.getElem_toArray, List.getElem_cons_succ, List.getElem_cons_zero, List.setIfInBounds_toArray, List.set_cons_zero, List.set_cons_succ])
            refine wpAnyF_done (by kernel_rfl) ?_ _
            go_wp2
            refine wp_region_F (S := (fun w' => w'.heap[w.heap.size + 1]? = some (.cells rt 40 (0, 0)) ∧ (convert 41 9 (.slice (some ⟨bb, oo, none⟩) 256 c)).run Try.prog w' = .ok (.string sB) w' ∧ Below w.heap.size w w' ∧ w'.heap[w.heap.size]? = some (.cells zz 40 (0, 0)) ∧ Below wr.heap.size wr w')) [] (by kernel_rfl) (HK.out _ ((Below.refl _ _).drew.drew)) (fun hHeld => ?_)
            refine wpAnyF_take (i := 0) (oi := _) (v := _) rfl (by kernel_rfl) (by kernel_rfl) (by kernel_rfl) (by kernel_rfl) (fun _ _ _ h => h) (yields_row17 (by rfl) 40 (.tmp 4) rfl (w.heap.size + 1) 0 rfl rt _ (fun W h => range_row h.1) Try.underlying40 rfl HIR.out) (by assumption) ?_
            (try simp only [Act.put, List.getElem_toArray, List.getElem_cons_succ, List.getElem_cons_zero, List.setIfInBounds_toArray, List.set_cons_zero, List.set_cons_succ])
            refine wpAnyF_ready (rs := [1]) (by kernel_rfl) (by simp) ?_
            refine AllReadyF.cons (o := _) rfl (fun K hK => ?_) AllReadyF.nil
            go_simp
            (go_at_call 18)
            refine (HRI2.out _).mono ?_
            rintro e w5 ⟨rfl, hb5⟩
            refine hK.out _ _ (HK.out _ (hHeld.2.2.2.2.trans (hb5.mono hHeld.2.2.2.2.size))) (fun hHeld1 => ?_)
            clear hK K
            (try simp only [Act.put, List.getElem_toArray, List.getElem_cons_succ, List.getElem_cons_zero, List.setIfInBounds_toArray, List.set_cons_zero, List.set_cons_succ])
            refine wpAnyF_take (i := 2) (oi := _) (v := ?_) rfl (by kernel_rfl) (by kernel_rfl) (by kernel_rfl) (by kernel_rfl) (fun _ _ _ h => h) (Or.inl ⟨by rfl, ?_⟩) (by assumption) ?_
            rotate_left 1
            · intro w hSw
              (try dsimp only at hSw)
              (first | (go_simp; done) | (go_simp; with_reducible rfl))
            (try simp only [Act.put, List.getElem_toArray, List.getElem_cons_succ, List.getElem_cons_zero, List.setIfInBounds_toArray, List.set_cons_zero, List.set_cons_succ])
            refine wpAnyF_take (i := 3) (oi := _) (v := ?_) rfl (by kernel_rfl) (by kernel_rfl) (by kernel_rfl) (by kernel_rfl) (fun _ _ _ h => h) (Or.inl ⟨by rfl, ?_⟩) (by assumption) ?_
            rotate_left 1
            · intro w hSw
              (try dsimp only at hSw)
              (first | (go_simp; done) | (go_simp; with_reducible rfl))
            (try simp only [Act.put, List.getElem_toArray, List.getElem_cons_succ, List.getElem_cons_zero, List.setIfInBounds_toArray, List.set_cons_zero, List.set_cons_succ])
            refine wpAnyF_take (i := 4) (oi := _) (v := _) rfl (by kernel_rfl) (by kernel_rfl) (by kernel_rfl) (by kernel_rfl) (fun _ _ _ h => h) (yields_row17 (by rfl) 40 (.tmp 4) rfl (w.heap.size + 1) 0 rfl rt _ (fun W h => range_row h.1) Try.underlying40 rfl HIR.out) (by assumption) ?_
            (try simp only [Act.put, List.getElem_toArray, List.getElem_cons_succ, List.getElem_cons_zero, List.setIfInBounds_toArray, List.set_cons_zero, List.set_cons_succ])
            refine wpAnyF_take (i := 7) (oi := _) (v := ?_) rfl (by kernel_rfl) (by kernel_rfl) (by kernel_rfl) (by kernel_rfl) (fun _ _ _ h => h) (Or.inl ⟨by rfl, ?_⟩) (by assumption) ?_
            rotate_left 1
            · intro w hSw
              (try dsimp only at hSw)
              (first | (go_simp; done) | (go_simp; with_reducible rfl))
            (try simp only [Act.put, List.getElem_toArray, List.getElem_cons_succ, List.getElem_cons_zero, List.setIfInBounds_toArray, List.set_cons_zero, List.set_cons_succ])
            refine wpAnyF_take (i := 8) (oi := _) (v := ?_) rfl (by kernel_rfl) (by kernel_rfl) (by kernel_rfl) (by kernel_rfl) (fun _ _ _ h => h) (Or.inl ⟨by rfl, ?_⟩) (by assumption) ?_
            rotate_left 1
            · intro w hSw
              (try dsimp only at hSw)
              (first | (go_simp; done) | (go_simp; with_reducible rfl))
            (try simp only [Act.put, List.getElem_toArray, List.getElem_cons_succ, List.getElem_cons_zero, List.setIfInBounds_toArray, List.set_cons_zero, List.set_cons_succ])
            refine wpAnyF_ready (rs := [5]) (by kernel_rfl) (by simp) ?_
            refine AllReadyF.cons (o := _) rfl (fun K hK => ?_) AllReadyF.nil
            go_simp
            (go_at_call 19)
            refine (HRB.out _).mono ?_
            rintro e w6 ⟨A6, c6, rfl, hb6, hx6⟩
            have hc6 := conv_at hx6
            rw [HSA.out] at hc6
            refine hK.out _ _ (HK.out _ (hHeld1.2.2.2.2.trans (hb6.mono hHeld1.2.2.2.2.size))) (fun hHeld5 => ?_)
            clear hK K
            (try simp only [Act.put, List.getElem_toArray, List.getElem_cons_succ, List.getElem_cons_zero, List.setIfInBounds_toArray, List.set_cons_zero, List.set_cons_succ])
            refine wpAnyF_ready (rs := [6]) (by kernel_rfl) (by simp) ?_
            refine AllReadyF.cons (o := _) rfl (fun K hK => ?_) AllReadyF.nil
            go_simp
            refine hK.out _ _ (by assumption) (fun hHeld6 => ?_)
            clear hK K
            (try simp only [Act.put, List.getElem_toArray, List.getElem_cons_succ, List.getElem_cons_zero, List.setIfInBounds_toArray, List.set_cons_zero, List.set_cons_succ])
            refine wpAnyF_ready (rs := [9]) (by kernel_rfl) (by simp) ?_
            refine AllReadyF.cons (o := _) rfl (fun K hK => ?_) AllReadyF.nil
            go_simp
            refine hK.out _ _ (by assumption) (fun hHeld9 => ?_)
            clear hK K
            (try simp only [Act.put, List.getElem_toArray, List.getElem_cons_succ, List.getElem_cons_zero, List.setIfInBounds_toArray, List.set_cons_zero, List.set_cons_succ])
            refine wpAnyF_ready (rs := [10]) (by kernel_rfl) (by simp) ?_
            refine AllReadyF.cons (o := _) rfl (fun K hK => ?_) AllReadyF.nil
            go_simp
            refine hK.out _ _ (by assumption) (fun hHeld10 => ?_)
            clear hK K
            (try simp only [Act.put, List.getElem_toArray, List.getElem_cons_succ, List.getElem_cons_zero, List.setIfInBounds_toArray, List.set_cons_zero, List.set_cons_succ])
            refine wpAnyF_done (by kernel_rfl) ?_ _
            have HHX := hHeld10
            clear hHeld hHeld1 hHeld5 hHeld6 hHeld9 hHeld10
            have HF := Lib.hid (setRow_heap _ _ _ rt _ _ HHX.2.2.2.1)
            have HBF := Lib.hid (below_setRow HHX.2.2.1 (Nat.le_refl _) rt)
            have HZZ := Lib.hid HHX.2.2.2.1
            have HXX := Lib.hid HHX.1
            go_wp2_with (first
              | (with_reducible refine wpList_load_row rfl 40 (.tmp 4) rfl _ rfl 40 _ _ _ HXX.out Try.underlying40 rfl HIR.out ?_)
              | (with_reducible refine wpList_store_row rfl 40 (.tmp 2) (.tmp 53) rfl _ _ rfl rfl 40 _ HZZ.out HIR.out HSL.out HONE.out ?_))
            exact bodyPost_ret (v := .tuple #[.agg rt, .bool true]) (results_row_tmp rfl _ _ _ 40 _ (0, 0) _ _ rfl rfl HF.out Try.underlying40 rfl HIR.out) rfl ⟨by rw [HVV.out.1, HVV.out.2, HRT.out]; rfl, HBF.out⟩
          · have hsne : ¬ sA = sB := fun h => hhd (str_inj (headL_byte _) HBY.out (by rw [← hsA, ← HSB.out, h]))
            have hqs : (sA.toList == sB.toList) = false := by rw [HSB.out, hsA]; exact str_ne (headL_byte _) HBY.out hhd
            have HVV : Hid (v = zl17 ∧ er = 4) := Lib.hid (by
              rcases HVL.out with ⟨_, h1, h2⟩ | ⟨_, h, _⟩ | ⟨h, _⟩
              · exact ⟨h1, h2⟩
              · exact absurd h hzl
              · exact absurd h.2.2 hhd)
            clear hsA hzl hhd hm
            go_wp2
            refine wp_region_F (S := (fun w' => w'.heap[w.heap.size + 1]? = some (.cells rt 40 (0, 0)) ∧ (convert 41 9 (.slice (some ⟨bb, oo, none⟩) 256 c)).run Try.prog w' = .ok (.string sB) w' ∧ Below w.heap.size w w' ∧ w'.heap[w.heap.size]? = some (.cells zz 40 (0, 0)) ∧ Below wr.heap.size wr w')) [] (by kernel_rfl) (HK.out _ ((Below.refl _ _).drew)) (fun hHeld => ?_)
            refine wpAnyF_take (i := 0) (oi := _) (v := _) rfl (by kernel_rfl) (by kernel_rfl) (by kernel_rfl) (by kernel_rfl) (fun _ _ _ h => h) (yields_row17 (by rfl) 40 (.tmp 4) rfl (w.heap.size + 1) 0 rfl rt _ (fun W h => range_row h.1) Try.underlying40 rfl HIR.out) (by assumption) ?_
            (try simp only [Act.put, List.getElem_toArray, List.getElem_cons_succ, List.getElem_cons_zero, List.setIfInBounds_toArray, List.set_cons_zero, List.set_cons_succ])
            refine wpAnyF_take (i := 1) (oi := _) (v := ?_) rfl (by kernel_rfl) (by kernel_rfl) (by kernel_rfl) (by kernel_rfl) (fun _ _ _ h => h) (Or.inl ⟨by rfl, ?_⟩) (by assumption) ?_
            rotate_left 1
            · intro w hSw
              (try dsimp only at hSw)
              (first | (go_simp; done) | (go_simp; with_reducible rfl))
            (try simp only [Act.put, List.getElem_toArray, List.getElem_cons_succ, List.getElem_cons_zero, List.setIfInBounds_toArray, List.set_cons_zero, List.set_cons_succ])
            refine wpAnyF_take (i := 2) (oi := _) (v := ?_) rfl (by kernel_rfl) (by kernel_rfl) (by kernel_rfl) (by kernel_rfl) (fun _ _ _ h => h) (Or.inl ⟨by rfl, ?_⟩) (by assumption) ?_
            rotate_left 1
            · intro w hSw
              (try dsimp only at hSw)
              (first | (go_simp; done) | (go_simp; with_reducible rfl))
            (try simp only [Act.put, List.getElem_toArray, List.getElem_cons_succ, List.getElem_cons_zero, List.setIfInBounds_toArray, List.set_cons_zero, List.set_cons_succ])
            refine wpAnyF_take (i := 3) (oi := _) (v := ?_) rfl (by kernel_rfl) (by kernel_rfl) (by kernel_rfl) (by kernel_rfl) (fun _ _ _ h => h) (Or.inl ⟨by rfl, ?_⟩) (by assumption) ?_
            rotate_left 1
            · intro w hSw
              (try dsimp only at hSw)
              (first | (go_simp; done) | (go_simp; with_reducible rfl))
            (try simp only [Act.put, List.getElem_toArray, List.getElem_cons_succ, List.getElem_cons_zero, List.setIfInBounds_toArray, List.set_cons_zero, List.set_cons_succ])
            refine wpAnyF_take (i := 4) (oi := _) (v := undef) rfl (by kernel_rfl) (by kernel_rfl) (by kernel_rfl) (by kernel_rfl) (fun _ _ _ h => h) (Or.inr ⟨by rfl, rfl⟩) (by assumption) ?_
            (try simp only [Act.put, List.getElem_toArray, List.getElem_cons_succ, List.getElem_cons_zero, List.setIfInBounds_toArray, List.set_cons_zero, List.set_cons_succ])
            refine wpAnyF_take (i := 5) (oi := _) (v := undef) rfl (by kernel_rfl) (by kernel_rfl) (by kernel_rfl) (by kernel_rfl) (fun _ _ _ h => h) (Or.inr ⟨by rfl, rfl⟩) (by assumption) ?_
            (try simp only [Act.put, List.getElem_toArray, List.getElem_cons_succ, List.getElem_cons_zero, List.setIfInBounds_toArray, List.set_cons_zero, List.set_cons_succ])
            refine wpAnyF_take (i := 6) (oi := _) (v := undef) rfl (by kernel_rfl) (by kernel_rfl) (by kernel_rfl) (by kernel_rfl) (fun _ _ _ h => h) (Or.inr ⟨by rfl, rfl⟩) (by assumption) ?_
            (try simp only [Act.put, List.getElem_toArray, List.getElem_cons_succ, List.getElem_cons_zero, List.setIfInBounds_toArray, List.set_cons_zero, List.set_cons_succ])
            refine wpAnyF_take (i := 7) (oi := _) (v := undef) rfl (by kernel_rfl) (by kernel_rfl) (by kernel_rfl) (by kernel_rfl) (fun _ _ _ h => h) (Or.inr ⟨by rfl, rfl⟩) (by assumption) ?_
            (try simp only [Act.put, List.getElem_toArray, List.getElem_cons_succ, List.getElem_cons_zero, List.setIfInBounds_toArray, List.set_cons_zero, List.set_cons_succ])
            refine wpAnyF_take (i := 8) (oi := _) (v := undef) rfl (by kernel_rfl) (by kernel_rfl) (by kernel_rfl) (by kernel_rfl) (fun _ _ _ h => h) (Or.inr ⟨by rfl, rfl⟩) (by assumption) ?_
            (try simp only [Act.put, List.getElem_toArray, List.getElem_cons_succ, List.getElem_cons_zero, List.setIfInBounds_toArray, List.set_cons_zero, List.set_cons_succ])
            refine wpAnyF_take (i := 9) (oi := _) (v := ?_) rfl (by kernel_rfl) (by kernel_rfl) (by kernel_rfl) (by kernel_rfl) (fun _ _ _ h => h) (Or.inl ⟨by rfl, ?_⟩) (by assumption) ?_
            rotate_left 1
            · intro w hSw
              (try dsimp only at hSw)
              (first | (go_simp; done) | (go_simp; with_reducible rfl))
            (try simp only [Act.put, List.getElem_toArray, List.getElem_cons_succ, List.getElem_cons_zero, List.setIfInBounds_toArray, List.set_cons_zero, List.set_cons_succ])
            refine wpAnyF_done (by kernel_rfl) ?_ _
            go_wp2
            refine wp_region_F (S := (fun w' => w'.heap[w.heap.size + 1]? = some (.cells rt 40 (0, 0)) ∧ (convert 41 9 (.slice (some ⟨bb, oo, none⟩) 256 c)).run Try.prog w' = .ok (.string sB) w' ∧ Below w.heap.size w w' ∧ w'.heap[w.heap.size]? = some (.cells zz 40 (0, 0)) ∧ Below wr.heap.size wr w')) [] (by kernel_rfl) (HK.out _ ((Below.refl _ _).drew.drew)) (fun hHeld => ?_)
            refine wpAnyF_take (i := 0) (oi := _) (v := _) rfl (by kernel_rfl) (by kernel_rfl) (by kernel_rfl) (by kernel_rfl) (fun _ _ _ h => h) (yields_row17 (by rfl) 40 (.tmp 4) rfl (w.heap.size + 1) 0 rfl rt _ (fun W h => range_row h.1) Try.underlying40 rfl HIR.out) (by assumption) ?_
            (try simp only [Act.put, List.getElem_toArray, List.getElem_cons_succ, List.getElem_cons_zero, List.setIfInBounds_toArray, List.set_cons_zero, List.set_cons_succ])
            refine wpAnyF_ready (rs := [1]) (by kernel_rfl) (by simp) ?_
            refine AllReadyF.cons (o := _) rfl (fun K hK => ?_) AllReadyF.nil
            go_simp
            (go_at_call 18)
            refine (HRI2.out _).mono ?_
            rintro e w5 ⟨rfl, hb5⟩
            refine hK.out _ _ (HK.out _ (hHeld.2.2.2.2.trans (hb5.mono hHeld.2.2.2.2.size))) (fun hHeld1 => ?_)
            clear hK K
            (try simp only [Act.put, List.getElem_toArray, List.getElem_cons_succ, List.getElem_cons_zero, List.setIfInBounds_toArray, List.set_cons_zero, List.set_cons_succ])
            refine wpAnyF_take (i := 2) (oi := _) (v := ?_) rfl (by kernel_rfl) (by kernel_rfl) (by kernel_rfl) (by kernel_rfl) (fun _ _ _ h => h) (Or.inl ⟨by rfl, ?_⟩) (by assumption) ?_
            rotate_left 1
            · intro w hSw
              (try dsimp only at hSw)
              (first | (go_simp; done) | (go_simp; with_reducible rfl))
            (try simp only [Act.put, List.getElem_toArray, List.getElem_cons_succ, List.getElem_cons_zero, List.setIfInBounds_toArray, List.set_cons_zero, List.set_cons_succ])
            refine wpAnyF_take (i := 3) (oi := _) (v := ?_) rfl (by kernel_rfl) (by kernel_rfl) (by kernel_rfl) (by kernel_rfl) (fun _ _ _ h => h) (Or.inl ⟨by rfl, ?_⟩) (by assumption) ?_
            rotate_left 1
            · intro w hSw
              (try dsimp only at hSw)
              (first | (go_simp; done) | (go_simp; with_reducible rfl))
            (try simp only [Act.put, List.getElem_toArray, List.getElem_cons_succ, List.getElem_cons_zero, List.setIfInBounds_toArray, List.set_cons_zero, List.set_cons_succ])
            refine wpAnyF_take (i := 4) (oi := _) (v := _) rfl (by kernel_rfl) (by kernel_rfl) (by kernel_rfl) (by kernel_rfl) (fun _ _ _ h => h) (yields_row17 (by rfl) 40 (.tmp 4) rfl (w.heap.size + 1) 0 rfl rt _ (fun W h => range_row h.1) Try.underlying40 rfl HIR.out) (by assumption) ?_
            (try simp only [Act.put, List.getElem_toArray, List.getElem_cons_succ, List.getElem_cons_zero, List.setIfInBounds_toArray, List.set_cons_zero, List.set_cons_succ])
            refine wpAnyF_take (i := 7) (oi := _) (v := ?_) rfl (by kernel_rfl) (by kernel_rfl) (by kernel_rfl) (by kernel_rfl) (fun _ _ _ h => h) (Or.inl ⟨by rfl, ?_⟩) (by assumption) ?_
            rotate_left 1
            · intro w hSw
              (try dsimp only at hSw)
              (first | (go_simp; done) | (go_simp; with_reducible rfl))
            (try simp only [Act.put, List.getElem_toArray, List.getElem_cons_succ, List.getElem_cons_zero, List.setIfInBounds_toArray, List.set_cons_zero, List.set_cons_succ])
            refine wpAnyF_take (i := 8) (oi := _) (v := ?_) rfl (by kernel_rfl) (by kernel_rfl) (by kernel_rfl) (by kernel_rfl) (fun _ _ _ h => h) (Or.inl ⟨by rfl, ?_⟩) (by assumption) ?_
            rotate_left 1
            · intro w hSw
              (try dsimp only at hSw)
              (first | (go_simp; done) | (go_simp; with_reducible rfl))
            (try simp only [Act.put, List.getElem_toArray, List.getElem_cons_succ, List.getElem_cons_zero, List.setIfInBounds_toArray, List.set_cons_zero, List.set_cons_succ])
            refine wpAnyF_ready (rs := [5]) (by kernel_rfl) (by simp) ?_
            refine AllReadyF.cons (o := _) rfl (fun K hK => ?_) AllReadyF.nil
            go_simp
            (go_at_call 19)
            refine (HRB.out _).mono ?_
            rintro e w6 ⟨A6, c6, rfl, hb6, hx6⟩
            have hc6 := conv_at hx6
            rw [HSA.out] at hc6
            refine hK.out _ _ (HK.out _ (hHeld1.2.2.2.2.trans (hb6.mono hHeld1.2.2.2.2.size))) (fun hHeld5 => ?_)
            clear hK K
            (try simp only [Act.put, List.getElem_toArray, List.getElem_cons_succ, List.getElem_cons_zero, List.setIfInBounds_toArray, List.set_cons_zero, List.set_cons_succ])
            refine wpAnyF_ready (rs := [6]) (by kernel_rfl) (by simp) ?_
            refine AllReadyF.cons (o := _) rfl (fun K hK => ?_) AllReadyF.nil
            go_simp
            refine hK.out _ _ (by assumption) (fun hHeld6 => ?_)
            clear hK K
            (try simp only [Act.put, List.getElem_toArray, List.getElem_cons_succ, List.getElem_cons_zero, List.setIfInBounds_toArray, List.set_cons_zero, List.set_cons_succ])
            refine wpAnyF_ready (rs := [9]) (by kernel_rfl) (by simp) ?_
            refine AllReadyF.cons (o := _) rfl (fun K hK => ?_) AllReadyF.nil
            go_simp
            refine hK.out _ _ (by assumption) (fun hHeld9 => ?_)
            clear hK K
            (try simp only [Act.put, List.getElem_toArray, List.getElem_cons_succ, List.getElem_cons_zero, List.setIfInBounds_toArray, List.set_cons_zero, List.set_cons_succ])
            refine wpAnyF_ready (rs := [10]) (by kernel_rfl) (by simp) ?_
            refine AllReadyF.cons (o := _) rfl (fun K hK => ?_) AllReadyF.nil
            go_simp
            refine hK.out _ _ (by assumption) (fun hHeld10 => ?_)
            clear hK K
            (try simp only [Act.put, List.getElem_toArray, List.getElem_cons_succ, List.getElem_cons_zero, List.setIfInBounds_toArray, List.set_cons_zero, List.set_cons_succ])
            refine wpAnyF_done (by kernel_rfl) ?_ _
            have HHX := hHeld10
            clear hHeld hHeld1 hHeld5 hHeld6 hHeld9 hHeld10
            have HF := Lib.hid (setRow_heap _ _ _ zz _ _ HHX.2.2.2.1)
            have HBF := Lib.hid (below_setRow HHX.2.2.1 (Nat.le_refl _) zz)
            have HZZ := Lib.hid HHX.2.2.2.1
            go_wp2_with (with_reducible refine wpList_store_row rfl 40 (.tmp 2) (.tmp 52) rfl _ _ rfl rfl 40 _ HZZ.out HIZ.out rfl HONZ.out ?_)
            exact bodyPost_ret (v := .tuple #[.agg zz, .bool false]) (results_row_tmp rfl _ _ _ 40 _ (0, 0) _ _ rfl rfl HF.out Try.underlying40 rfl HIZ.out) rfl ⟨by rw [HVV.out.1, HVV.out.2, HZ.out]; rfl, HBF.out⟩
        · have HRI2 : Hid (∀ W, Calls Try.prog 18 #[.agg rt] W fun e w' => e = .returned (.bool false) ∧ Below W.heap.size W w') := Lib.hid (fun W => by have := HRI.out W; rw [decide_eq_false hm] at this; exact this)
          have HVV : Hid (v = zl17 ∧ er = 4) := Lib.hid (by
            rcases HVL.out with ⟨_, h1, h2⟩ | ⟨_, h, _⟩ | ⟨h, _⟩
            · exact ⟨h1, h2⟩
            · exact absurd h hzl
            · rcases h.2.1 with h | h
              · exact absurd h hzl
              · exact absurd h hm)
          clear hzl hm
          go_wp2
          refine wp_region_F (S := (fun w' => w'.heap[w.heap.size + 1]? = some (.cells rt 40 (0, 0)) ∧ (convert 41 9 (.slice (some ⟨bb, oo, none⟩) 256 c)).run Try.prog w' = .ok (.string sB) w' ∧ Below w.heap.size w w' ∧ w'.heap[w.heap.size]? = some (.cells zz 40 (0, 0)) ∧ Below wr.heap.size wr w')) [] (by kernel_rfl) (HK.out _ ((Below.refl _ _).drew)) (fun hHeld => ?_)
          refine wpAnyF_take (i := 0) (oi := _) (v := _) rfl (by kernel_rfl) (by kernel_rfl) (by kernel_rfl) (by kernel_rfl) (fun _ _ _ h => h) (yields_row17 (by rfl) 40 (.tmp 4) rfl (w.heap.size + 1) 0 rfl rt _ (fun W h => range_row h.1) Try.underlying40 rfl HIR.out) (by assumption) ?_
          (try simp only [Act.put, List.getElem_toArray, List.getElem_cons_succ, List.getElem_cons_zero, List.setIfInBounds_toArray, List.set_cons_zero, List.set_cons_succ])
          refine wpAnyF_take (i := 1) (oi := _) (v := ?_) rfl (by kernel_rfl) (by kernel_rfl) (by kernel_rfl) (by kernel_rfl) (fun _ _ _ h => h) (Or.inl ⟨by rfl, ?_⟩) (by assumption) ?_
          rotate_left 1
          · intro w hSw
            (try dsimp only at hSw)
            (first | (go_simp; done) | (go_simp; with_reducible rfl))
          (try simp only [Act.put, List.getElem_toArray, List.getElem_cons_succ, List.getElem_cons_zero, List.setIfInBounds_toArray, List.set_cons_zero, List.set_cons_succ])
          refine wpAnyF_take (i := 2) (oi := _) (v := ?_) rfl (by kernel_rfl) (by kernel_rfl) (by kernel_rfl) (by kernel_rfl) (fun _ _ _ h => h) (Or.inl ⟨by rfl, ?_⟩) (by assumption) ?_
          rotate_left 1
          · intro w hSw
            (try dsimp only at hSw)
            (first | (go_simp; done) | (go_simp; with_reducible rfl))
          (try simp only [Act.put, List.getElem_toArray, List.getElem_cons_succ, List.getElem_cons_zero, List.setIfInBounds_toArray, List.set_cons_zero, List.set_cons_succ])
          refine wpAnyF_take (i := 3) (oi := _) (v := ?_) rfl (by kernel_rfl) (by kernel_rfl) (by kernel_rfl) (by kernel_rfl) (fun _ _ _ h => h) (Or.inl ⟨by rfl, ?_⟩) (by assumption) ?_
          rotate_left 1
          · intro w hSw
            (try dsimp only at hSw)
            (first | (go_simp; done) | (go_simp; with_reducible rfl))
          (try simp only [Act.put, List.getElem_toArray, List.getElem_cons_succ, List.getElem_cons_zero, List.setIfInBounds_toArray, List.set_cons_zero, List.set_cons_succ])
          refine wpAnyF_take (i := 4) (oi := _) (v := undef) rfl (by kernel_rfl) (by kernel_rfl) (by kernel_rfl) (by kernel_rfl) (fun _ _ _ h => h) (Or.inr ⟨by rfl, rfl⟩) (by assumption) ?_
          (try simp only [Act.put, List.getElem_toArray, List.getElem_cons_succ, List.getElem_cons_zero, List.setIfInBounds_toArray, List.set_cons_zero, List.set_cons_succ])
          refine wpAnyF_take (i := 5) (oi := _) (v := undef) rfl (by kernel_rfl) (by kernel_rfl) (by kernel_rfl) (by kernel_rfl) (fun _ _ _ h => h) (Or.inr ⟨by rfl, rfl⟩) (by assumption) ?_
          (try simp only [Act.put, List.getElem_toArray, List.getElem_cons_succ, List.getElem_cons_zero, List.setIfInBounds_toArray, List.set_cons_zero, List.set_cons_succ])
          refine wpAnyF_take (i := 6) (oi := _) (v := undef) rfl (by kernel_rfl) (by kernel_rfl) (by kernel_rfl) (by kernel_rfl) (fun _ _ _ h => h) (Or.inr ⟨by rfl, rfl⟩) (by assumption) ?_
          (try simp only [Act.put, List.getElem_toArray, List.getElem_cons_succ, List.getElem_cons_zero, List.setIfInBounds_toArray, List.set_cons_zero, List.set_cons_succ])
          refine wpAnyF_take (i := 7) (oi := _) (v := undef) rfl (by kernel_rfl) (by kernel_rfl) (by kernel_rfl) (by kernel_rfl) (fun _ _ _ h => h) (Or.inr ⟨by rfl, rfl⟩) (by assumption) ?_
          (try simp only [Act.put, List.getElem_toArray, List.getElem_cons_succ, List.getElem_cons_zero, List.setIfInBounds_toArray, List.set_cons_zero, List.set_cons_succ])
          refine wpAnyF_take (i := 8) (oi := _) (v := undef) rfl (by kernel_rfl) (by kernel_rfl) (by kernel_rfl) (by kernel_rfl) (fun _ _ _ h => h) (Or.inr ⟨by rfl, rfl⟩) (by assumption) ?_
          (try simp only [Act.put, List.getElem_toArray, List.getElem_cons_succ, List.getElem_cons_zero, List.setIfInBounds_toArray, List.set_cons_zero, List.set_cons_succ])
          refine wpAnyF_take (i := 9) (oi := _) (v := ?_) rfl (by kernel_rfl) (by kernel_rfl) (by kernel_rfl) (by kernel_rfl) (fun _ _ _ h => h) (Or.inl ⟨by rfl, ?_⟩) (by assumption) ?_
          rotate_left 1
          · intro w hSw
            (try dsimp only at hSw)
            (first | (go_simp; done) | (go_simp; with_reducible rfl))
          (try simp only [Act.put, List.getElem_toArray, List.getElem_cons_succ, List.getElem_cons_zero, List.setIfInBounds_toArray, List.set_cons_zero, List.set_cons_succ])
          refine wpAnyF_done (by kernel_rfl) ?_ _
          go_wp2
          refine wp_region_F (S := (fun w' => w'.heap[w.heap.size + 1]? = some (.cells rt 40 (0, 0)) ∧ (convert 41 9 (.slice (some ⟨bb, oo, none⟩) 256 c)).run Try.prog w' = .ok (.string sB) w' ∧ Below w.heap.size w w' ∧ w'.heap[w.heap.size]? = some (.cells zz 40 (0, 0)) ∧ Below wr.heap.size wr w')) [] (by kernel_rfl) (HK.out _ ((Below.refl _ _).drew.drew)) (fun hHeld => ?_)
          refine wpAnyF_take (i := 0) (oi := _) (v := _) rfl (by kernel_rfl) (by kernel_rfl) (by kernel_rfl) (by kernel_rfl) (fun _ _ _ h => h) (yields_row17 (by rfl) 40 (.tmp 4) rfl (w.heap.size + 1) 0 rfl rt _ (fun W h => range_row h.1) Try.underlying40 rfl HIR.out) (by assumption) ?_
          (try simp only [Act.put, List.getElem_toArray, List.getElem_cons_succ, List.getElem_cons_zero, List.setIfInBounds_toArray, List.set_cons_zero, List.set_cons_succ])
          refine wpAnyF_ready (rs := [1]) (by kernel_rfl) (by simp) ?_
          refine AllReadyF.cons (o := _) rfl (fun K hK => ?_) AllReadyF.nil
          go_simp
          (go_at_call 18)
          refine (HRI2.out _).mono ?_
          rintro e w5 ⟨rfl, hb5⟩
          refine hK.out _ _ (HK.out _ (hHeld.2.2.2.2.trans (hb5.mono hHeld.2.2.2.2.size))) (fun hHeld1 => ?_)
          clear hK K
          (try simp only [Act.put, List.getElem_toArray, List.getElem_cons_succ, List.getElem_cons_zero, List.setIfInBounds_toArray, List.set_cons_zero, List.set_cons_succ])
          refine wpAnyF_take (i := 2) (oi := _) (v := ?_) rfl (by kernel_rfl) (by kernel_rfl) (by kernel_rfl) (by kernel_rfl) (fun _ _ _ h => h) (Or.inl ⟨by rfl, ?_⟩) (by assumption) ?_
          rotate_left 1
          · intro w hSw
            (try dsimp only at hSw)
            (first | (go_simp; done) | (go_simp; with_reducible rfl))
          (try simp only [Act.put, List.getElem_toArray, List.getElem_cons_succ, List.getElem_cons_zero, List.setIfInBounds_toArray, List.set_cons_zero, List.set_cons_succ])
          refine wpAnyF_take (i := 3) (oi := _) (v := ?_) rfl (by kernel_rfl) (by kernel_rfl) (by kernel_rfl) (by kernel_rfl) (fun _ _ _ h => h) (Or.inl ⟨by rfl, ?_⟩) (by assumption) ?_
          rotate_left 1
          · intro w hSw
            (try dsimp only at hSw)
            (first | (go_simp; done) | (go_simp; with_reducible rfl))
          (try simp only [Act.put, List.getElem_toArray, List.getElem_cons_succ, List.getElem_cons_zero, List.setIfInBounds_toArray, List.set_cons_zero, List.set_cons_succ])
          refine wpAnyF_take (i := 4) (oi := _) (v := undef) rfl (by kernel_rfl) (by kernel_rfl) (by kernel_rfl) (by kernel_rfl) (fun _ _ _ h => h) (Or.inr ⟨by rfl, rfl⟩) (by assumption) ?_
          (try simp only [Act.put, List.getElem_toArray, List.getElem_cons_succ, List.getElem_cons_zero, List.setIfInBounds_toArray, List.set_cons_zero, List.set_cons_succ])
          refine wpAnyF_take (i := 5) (oi := _) (v := undef) rfl (by kernel_rfl) (by kernel_rfl) (by kernel_rfl) (by kernel_rfl) (fun _ _ _ h => h) (Or.inr ⟨by rfl, rfl⟩) (by assumption) ?_
          (try simp only [Act.put, List.getElem_toArray, List.getElem_cons_succ, List.getElem_cons_zero, List.setIfInBounds_toArray, List.set_cons_zero, List.set_cons_succ])
          refine wpAnyF_take (i := 6) (oi := _) (v := undef) rfl (by kernel_rfl) (by kernel_rfl) (by kernel_rfl) (by kernel_rfl) (fun _ _ _ h => h) (Or.inr ⟨by rfl, rfl⟩) (by assumption) ?_
          (try simp only [Act.put, List.getElem_toArray, List.getElem_cons_succ, List.getElem_cons_zero, List.setIfInBounds_toArray, List.set_cons_zero, List.set_cons_succ])
          refine wpAnyF_take (i := 7) (oi := _) (v := undef) rfl (by kernel_rfl) (by kernel_rfl) (by kernel_rfl) (by kernel_rfl) (fun _ _ _ h => h) (Or.inr ⟨by rfl, rfl⟩) (by assumption) ?_
          (try simp only [Act.put, List.getElem_toArray, List.getElem_cons_succ, List.getElem_cons_zero, List.setIfInBounds_toArray, List.set_cons_zero, List.set_cons_succ])
          refine wpAnyF_take (i := 8) (oi := _) (v := undef) rfl (by kernel_rfl) (by kernel_rfl) (by kernel_rfl) (by kernel_rfl) (fun _ _ _ h => h) (Or.inr ⟨by rfl, rfl⟩) (by assumption) ?_
          (try simp only [Act.put, List.getElem_toArray, List.getElem_cons_succ, List.getElem_cons_zero, List.setIfInBounds_toArray, List.set_cons_zero, List.set_cons_succ])
          refine wpAnyF_take (i := 9) (oi := _) (v := undef) rfl (by kernel_rfl) (by kernel_rfl) (by kernel_rfl) (by kernel_rfl) (fun _ _ _ h => h) (Or.inr ⟨by rfl, rfl⟩) (by assumption) ?_
          (try simp only [Act.put, List.getElem_toArray, List.getElem_cons_succ, List.getElem_cons_zero, List.setIfInBounds_toArray, List.set_cons_zero, List.set_cons_succ])
          refine wpAnyF_take (i := 10) (oi := _) (v := ?_) rfl (by kernel_rfl) (by kernel_rfl) (by kernel_rfl) (by kernel_rfl) (fun _ _ _ h => h) (Or.inl ⟨by rfl, ?_⟩) (by assumption) ?_
          rotate_left 1
          · intro w hSw
            (try dsimp only at hSw)
            (first | (go_simp; done) | (go_simp; with_reducible rfl))
          (try simp only [Act.put, List.getElem_toArray, List.getElem_cons_succ, List.getElem_cons_zero, List.setIfInBounds_toArray, List.set_cons_zero, List.set_cons_succ])
          refine wpAnyF_done (by kernel_rfl) ?_ _
          have HHX := hHeld1
          clear hHeld hHeld1
          have HF := Lib.hid (setRow_heap _ _ _ zz _ _ HHX.2.2.2.1)
          have HBF := Lib.hid (below_setRow HHX.2.2.1 (Nat.le_refl _) zz)
          have HZZ := Lib.hid HHX.2.2.2.1
          go_wp2_with (with_reducible refine wpList_store_row rfl 40 (.tmp 2) (.tmp 52) rfl _ _ rfl rfl 40 _ HZZ.out HIZ.out rfl HONZ.out ?_)
          exact bodyPost_ret (v := .tuple #[.agg zz, .bool false]) (results_row_tmp rfl _ _ _ 40 _ (0, 0) _ _ rfl rfl HF.out Try.underlying40 rfl HIZ.out) rfl ⟨by rw [HVV.out.1, HVV.out.2, HZ.out]; rfl, HBF.out⟩
end Go.Proofs.Ytfnppoagmambgaa
