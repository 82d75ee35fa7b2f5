/-
  Joined: TwT, TwU, TwW, TwV.
-/
import Derived.Test.YtanpdpiohmjjdaaTwZ5
import Derived.WalkKit
import Derived.ProofKit
import Derived.OpenShut
import Derived.Deep.Slices
import Derived.Deep.Fields
import Derived.ChangeSame
namespace Go.Proofs.Ytanpdpiohmjjdaa
set_option maxRecDepth 100000
section
open Go.RowKit Go
set_option linter.unusedVariables false
set_option linter.unusedSimpArgs false
theorem zero32_cells : dA zero32L = zeros 32 := by kernel_rfl
set_option maxHeartbeats 1000000 in
set_option maxRecDepth 100000 in
theorem tnode_out (T b n D lb cap : Nat) (k : Int) (q : Nat → Nat) (F : Nat → Nat → List Nat) (w : World) (h : TrB w T b n D lb cap q F) (hk : k < 0 ∨ (2 : Int) ^ D ≤ k) (hkb : k ≤ 9223372036854775807) :
    Calls Try.prog 20 #[.pointer (some ⟨T, 0, none⟩), .int .i64 0, .int .i64 k] w fun e w' => e = .returned (.agg (zeros 32)) ∧ Below w.heap.size w w' := by
  have hz := zero_dig
  have hb1 : Below w.heap.size w (w.alloc (.cells (zeros 32) DgT)) := (Below.refl _ _).alloc (Nat.le_refl _) _
  have h1 := h.next hb1
  have k2 := h1.c2
  have kr := h1.row 0 (Nat.zero_le _)
  rw [Nat.sub_zero] at kr
  have HN := Lib.hid (tnone_any T b n D lb cap q F _ h1)
  have HDP := Lib.hid (tdepth_any T b n D lb cap q F _ h1)
  have hD := h.D5
  have hN : ∃ N : Nat, N = 2 ^ D := ⟨_, rfl⟩
  obtain ⟨N, hN⟩ := hN
  have hNi : ((2 : Int) ^ D) = (N : Int) := by rw [hN]; push_cast; rfl
  rw [hNi] at hk
  rw [← hN] at kr
  have HI := Lib.hid (info_dig (cs := zeros 32) (by simp [zeros]))
  have HO : Hid ((zeros 32).all (·.oneCell') = true) := Lib.hid (by kernel_rfl)
  have HX := Lib.hid (heap_alloc_new w (.cells (zeros 32) DgT))
  have HFX := Lib.hid (setRow_heap _ _ _ (zeros 32) _ _ (heap_alloc_new w (.cells (zeros 32) DgT)))
  have HFB := Lib.hid (below_setRow (g := w.heap.size) hb1 (Nat.le_refl _) (zeros 32))
  have a2 : decide ((D : Int) < 0) = false := decide_eq_false (by omega)
  clear h h1 hb1 hN hNi
  rcases hk with hk | hk
  · have a3 : decide (k < 0) = true := decide_eq_true hk
    go_enter Try.func20, Try.ntmps20
    go_wp2_with fail
    refine HN.out.mono ?_
    rintro e w' ⟨rfl, rfl⟩
    go_wp2_with fail
    refine HDP.out.mono ?_
    rintro e w' ⟨rfl, rfl⟩
    go_wp2_with (with_reducible refine wpList_store_row rfl DgT (.tmp 6) (.tmp 35) rfl _ _ rfl rfl DgT _ HX.out HI.out rfl HO.out ?_)
    exact bodyPost_ret (v := .agg (zeros 32)) (results_cell_row rfl _ _ _ DgT _ (0, 0) _ rfl HFX.out Try.underlying34 rfl HI.out) rfl ⟨rfl, HFB.out⟩
  · have a3 : decide (k < 0) = false := decide_eq_false (by omega)
    have a4 : decide ((N : Int) ≤ k) = true := decide_eq_true hk
    go_enter Try.func20, Try.ntmps20
    go_wp2_with fail
    refine HN.out.mono ?_
    rintro e w' ⟨rfl, rfl⟩
    go_wp2_with fail
    refine HDP.out.mono ?_
    rintro e w' ⟨rfl, rfl⟩
    go_wp2_with (with_reducible refine wpList_store_row rfl DgT (.tmp 6) (.tmp 35) rfl _ _ rfl rfl DgT _ HX.out HI.out rfl HO.out ?_)
    exact bodyPost_ret (v := .agg (zeros 32)) (results_cell_row rfl _ _ _ DgT _ (0, 0) _ rfl HFX.out Try.underlying34 rfl HI.out) rfl ⟨rfl, HFB.out⟩
/-- leaf k of n, or noughts -/
def leafK (n : Nat) (ls : Nat → List Nat) (k : Int) : List Nat := if 0 ≤ k ∧ k < (n : Int) then ls k.toNat else zero32L
theorem tat_any (T b n D lb cap : Nat) (k : Int) (ls : Nat → List Nat) (q : Nat → Nat) (F : Nat → Nat → List Nat) (w : World) (h : TrB w T b n D lb cap q F) (hf : ∀ i, i < 2 ^ D → F 0 i = mixX n ls i) (hkb : k ≤ 9223372036854775807) :
    Calls Try.prog 16 #[.pointer (some ⟨T, 0, none⟩), .int .i64 k] w fun e w' => e = .returned (.agg (dA (leafK n ls k))) ∧ Below w.heap.size w w' := by
  have hz := zero_dig
  obtain ⟨W0, hW0⟩ : ∃ W0, W0 = w.alloc (.cells (zeros 32) DgT) := ⟨_, rfl⟩
  have hb1 : Below w.heap.size w W0 := by rw [hW0]; exact (Below.refl _ _).alloc (Nat.le_refl _) _
  have h1 := h.next hb1
  have key : Calls Try.prog 20 #[.pointer (some ⟨T, 0, none⟩), .int .i64 0, .int .i64 k] W0 fun e w' => e = .returned (.agg (dA (leafK n ls k))) ∧ Below W0.heap.size W0 w' := by
    by_cases hk : k < 0 ∨ (2 : Int) ^ D ≤ k
    · refine (tnode_out T b n D lb cap k q F W0 h1 hk hkb).mono ?_
      rintro e w' ⟨he, hb⟩
      have e1 : leafK n ls k = zero32L := by
        unfold leafK
        rw [if_neg]
        intro c
        have hn := h.n1.2
        have hn2 : (n : Int) ≤ (2 : Int) ^ D := by exact_mod_cast hn
        omega
      rw [e1, zero32_cells]
      exact ⟨he, hb⟩
    · obtain ⟨i, rfl⟩ : ∃ i : Nat, k = (i : Int) := ⟨k.toNat, by omega⟩
      have hi : i < 2 ^ D := by
        have : (i : Int) < (2 : Int) ^ D := by omega
        exact_mod_cast this
      refine (tnode_in T b n D lb cap 0 i q F W0 h1 (Nat.zero_le _) (by rw [Nat.sub_zero]; exact hi)).mono ?_
      rintro e w' ⟨he, hb⟩
      rw [hf i hi] at he
      have e1 : leafK n ls (i : Int) = mixX n ls i := by
        unfold leafK mixX
        by_cases c : i < n
        · rw [if_pos c, if_pos ⟨by omega, by omega⟩, Int.toNat_natCast]
        · rw [if_neg c, if_neg (fun x => by omega)]
      rw [e1]
      exact ⟨he, hb⟩
  have KEY := Lib.hid key
  have HX : Hid (W0.heap[w.heap.size]? = some (.cells (zeros 32) DgT (0, 0))) := Lib.hid (by rw [hW0]; exact heap_alloc_new w _)
  have HB1 := Lib.hid hb1
  obtain ⟨xd, hxd⟩ : ∃ z, z = dA (leafK n ls k) := ⟨_, rfl⟩
  have hx2 : xd.size = 32 := by rw [hxd, rowV_size]
  have HI := Lib.hid (info_dig hx2)
  have HO : Hid (xd.all (·.oneCell') = true) := Lib.hid (by rw [hxd]; exact dA_one _)
  have HZ : Hid ((zeros 32).size = xd.size) := Lib.hid (by rw [hx2]; simp [zeros])
  have HW0 := Lib.hid hW0
  rw [← hxd] at KEY ⊢
  clear h h1 hb1 key hW0 hxd hx2 hf
  go_enter Try.func16, Try.ntmps16
  go_wp2_with fail
  rw [← HW0.out]
  refine KEY.out.mono ?_
  rintro e w3 ⟨rfl, hb4⟩
  have HX4 : Hid (w3.heap[w.heap.size]? = some (.cells (zeros 32) DgT (0, 0))) := Lib.hid ((hb4.block _ (blk_lt HX.out)).trans HX.out)
  have HFX := Lib.hid (setRow_heap _ _ _ xd _ _ HX4.out)
  have HFB := Lib.hid (below_setRow (g := w.heap.size) (HB1.out.trans (hb4.mono HB1.out.size)) (Nat.le_refl _) xd)
  clear hb4
  go_wp2_with (with_reducible refine wpList_store_row rfl DgT (.tmp 4) (.tmp 7) rfl _ _ rfl rfl DgT _ HX4.out HI.out HZ.out HO.out ?_)
  exact bodyPost_ret (v := .agg xd) (results_cell_row rfl _ _ _ DgT _ (0, 0) _ rfl HFX.out Try.underlying34 rfl HI.out) rfl ⟨rfl, HFB.out⟩
end
section
open Go.RowKit Go
set_option linter.unusedVariables false
set_option linter.unusedSimpArgs false
theorem fill_one (xd : Array Value) (hx : xd.size = 32) : Instr.fill (fun i => some (i * 32, 32)) ((Array.range (1 * 32)).map ((Value.agg (zeros 32)).cells[· % (Value.agg (zeros 32)).cells.size]!)) [(0, .agg xd)] = some xd := by
  have h := Go.Great.fill_whole (s := 32) (by omega) [.agg xd] ((Array.range (1 * 32)).map ((Value.agg (zeros 32)).cells[· % (Value.agg (zeros 32)).cells.size]!)) (fun v hv => by
    have e : v = .agg xd := by simpa using hv
    rw [e]; exact hx) (by simp)
  have e1 : (([Value.agg xd].flatMap fun v => v.cells.toList).toArray) = xd := by simp [Value.cells]
  rw [e1] at h
  exact h
theorem wpList_build1 {ops : Array Oper} {rest : List Oper} {o : Oper} {a : Act} {w : World} {Q : Exit → Act → World → Prop} (hg : o.guard = none) (x : Operand) (ho : o.op = .buildSlice 30 1 #[(0, x)]) (xd : Array Value) (hx2 : xd.size = 32) (hx : a.eval x = .agg xd)
    (h : wpList Try.prog ops Q rest (a.put o.dst (.slice (some ⟨w.heap.size, 0, none⟩) 1 1)) (w.alloc (.cells xd DgT))) : wpList Try.prog ops Q (o :: rest) a w := by
  obtain ⟨ie, h0, h1, h2, h3⟩ := info_parts dg_info
  refine wpList_buildSlice hg 30 DgT 1 #[(0, x)] ho xd ie _ Try.underlying30 h0 h1 (by rw [h2]; omega) (by rw [h2]; omega) ?_ h
  rw [h2]
  simp only [List.map_toArray, List.map_cons, List.map_nil, hx]
  exact fill_one xd hx2
def flatD (ls : Nat → List Nat) (k : Nat) : List Value := (List.range k).flatMap fun i => (dA (ls i)).toList
theorem flatD_snoc (ls : Nat → List Nat) (k : Nat) : flatD ls (k + 1) = flatD ls k ++ (dA (ls k)).toList := by
  unfold flatD
  rw [List.range_succ, List.flatMap_append]
  simp
theorem flatD_len (ls : Nat → List Nat) : ∀ k, (flatD ls k).length = k * 32
  | 0 => by simp [flatD]
  | k + 1 => by rw [flatD_snoc, List.length_append, flatD_len ls k, Array.length_toList, rowV_size]; omega
theorem flatD_at (ls : Nat → List Nat) (i j : Nat) (hj : j < 32) : ∀ n, i < n → (flatD ls n)[i * 32 + j]? = (dA (ls i)).toList[j]?
  | 0, h => by omega
  | n + 1, h => by
    rw [flatD_snoc]
    by_cases e : i = n
    · subst e
      rw [List.getElem?_append_right (by rw [flatD_len]; omega), flatD_len, show i * 32 + j - i * 32 = j by omega]
    · rw [List.getElem?_append_left (by rw [flatD_len]; omega)]
      exact flatD_at ls i j hj n (by omega)
theorem wp_appD {ops : Array Oper} {rest : List Oper} {o : Oper} {a : Act} {Q : Exit → Act → World → Prop} (W : World) (hgd : o.guard = none) (s x : Operand)
    (ho : o.op = .call { callee := .builtin .append, args := #[s, x], argTypes := #[30, 30] })
    (B : Nat) (v : Value) (n : Nat) (xs : List Value) (xd : Array Value) (hx32 : xd.size = 32) (hone : xd.all (·.oneCell') = true) (hs : a.eval s = v) (hown : W.ownsRow B DgT 32 v n xs)
    (hx : a.eval x = .slice (some ⟨W.heap.size, 0, none⟩) 1 1) (hn : n < 1000) (hB : B ≤ W.heap.size)
    (h : ∀ v' w', w'.ownsRow B DgT 32 v' (n + 1) (xs ++ xd.toList) → Below B W w' → wpList Try.prog ops Q rest (a.put o.dst v') w') :
    wpList Try.prog ops Q (o :: rest) a (W.alloc (.cells xd DgT)) := by
  obtain ⟨i0, hi, hz0, hz1, hz2⟩ := info_parts dg_info
  have hnb := heap_alloc_new W (.cells xd DgT)
  refine wpList_append_own _ hgd s x 30 ho B DgT i0 (.agg (zeros 32)) 32 32 Try.underlying30 hi hz0 hz1 hz2 (by simp [Value.cells, zeros]) (by decide) v n xs hs (World.ownsRow.alloc hown _) ⟨W.heap.size, 0, none⟩ 1 1
    xd.toList hx (by rw [Array.length_toList]; omega) ?_ ?_ (by unfold maxLen; omega) (by omega) (by simp; omega) ?_
  · intro j u hj
    have e : (⟨W.heap.size, 0, none⟩ : Addr).add j = ⟨W.heap.size, j, none⟩ := by unfold Addr.add; split <;> simp_all
    rw [e, blk_cell hnb j]
    simpa using hj
  · intro u hu
    exact (Array.all_eq_true_iff_forall_mem.1 hone) u (by simpa using hu)
  · intro v' w1 hown' hg _
    exact h v' w1 hown' (((Below.refl B W).alloc hB _).grown hg (by simp; omega) (fun k hk => (World.ownsRow.lt hown k hk).1))
def DigTo (w : World) (n : Nat) (ls : Nat → List Nat) (e : Ending) (w' : World) : Prop := ∃ A c, e = .returned (.slice A n c) ∧ n ≤ c ∧ DgS w' A n ls ∧ Below w.heap.size w w'
theorem tdig_end {w W : World} {n : Nat} {ls : Nat → List Nat} {v : Value} (h : W.ownsRow w.heap.size DgT 32 v n (flatD ls n)) (hb : Below w.heap.size w W) (hd : ∀ k, IsDig (ls k)) : DigTo w n ls (.returned v) W := by
  by_cases hn : 0 < n
  · obtain ⟨g, cap, hv, hg, hgl, hc, hm, hx⟩ := own_at h hn
    refine ⟨_, cap, by rw [hv], hc, ⟨fun _ => ⟨g, 0, rfl, hgl, fun k hk j u hu => ?_⟩, hd⟩, hb⟩
    have hj : j < 32 := by have := (List.getElem?_eq_some_iff.1 hu).1; simpa [rowV_size] using this
    rw [show 0 + k * 32 + j = k * 32 + j by omega]
    exact hx _ _ ((flatD_at ls k j hj n hk).trans hu)
  · obtain rfl : n = 0 := by omega
    obtain ⟨h1, h2⟩ := h
    rcases h2 with ⟨h2, _⟩ | ⟨g, cap, cur, hv, hbg, hh, hnc, hm, _⟩
    · exact ⟨none, 0, by rw [h2], Nat.le_refl _, ⟨fun c => by omega, hd⟩, hb⟩
    · exact ⟨_, cap, by rw [hv], Nat.zero_le _, ⟨fun c => by omega, hd⟩, hb⟩
set_option maxHeartbeats 2000000 in
set_option maxRecDepth 100000 in
theorem digests_any (n c : Nat) (A : Option Addr) (ls : Nat → List Nat) (w : World) (h : DgS w A n ls) (hn : n ≤ 20) :
    Calls Try.prog 11 #[.slice A n c] w (DigTo w n ls) := by
  have hz := zero32
  have HH := Lib.hid h
  clear h
  go_enter Try.func11, Try.ntmps11
  go_wp2_with fail
  go_loopg [3, 8] n (fun gk v iv W => ∃ k : Nat, iv = .int .i64 (k : Int) ∧ k + gk = n ∧ W.ownsRow w.heap.size DgT 32 v k (flatD ls k) ∧ Below w.heap.size w W)
  case atStart => exact ⟨0, rfl, by omega, World.ownsRow_nil _ _ _ _, Below.refl _ _⟩
  case round =>
    obtain ⟨k, rfl, hk, hown, hb⟩ := hrel
    have HOW := Lib.hid hown
    have HB := Lib.hid hb
    clear hown hb
    by_cases hlt : k < n
    · obtain ⟨b, o, rfl, hbl, hrg⟩ := HH.out.1 (by omega)
      obtain ⟨xd, hxd⟩ : ∃ z, z = dA (ls k) := ⟨_, rfl⟩
      have hx2 : xd.size = 32 := by rw [hxd, rowV_size]
      have HI := Lib.hid (info_d32 hx2)
      have HIL : Hid ((Try.prog.info? 33).map (·.size) = some xd.toList.length) := Lib.hid (by rw [Array.length_toList]; exact info_d32 hx2)
      have hone : xd.all (·.oneCell') = true := by rw [hxd]; exact dA_one _
      have HO := Lib.hid hone
      have HX2 := Lib.hid hx2
      have HZ : Hid ((zeros 32).size = xd.size) := Lib.hid (by rw [hx2]; simp [zeros])
      have HR : Hid (wr.rangeAt b (o + k * 32) xd.toList) := Lib.hid (by rw [hxd]; exact range_of (HB.out.block b hbl) (hrg k hlt))
      have hxa : xd.toList.toArray = xd := by simp
      have ho8 := heap_alloc_new wr (.cells (zeros 32) 33)
      have HO8 := Lib.hid ho8
      obtain ⟨V8, hV8⟩ : ∃ V8, V8 = (wr.alloc (.cells (zeros 32) 33)).setRow wr.heap.size xd := ⟨_, rfl⟩
      have hb8 : Below wr.heap.size wr V8 := by rw [hV8]; exact below_setRow (g := wr.heap.size) ((Below.refl _ _).alloc (Nat.le_refl _) _) (Nat.le_refl _) xd
      have HP8 : Hid (V8.heap[wr.heap.size]? = some (.cells xd 33 (0, 0))) := Lib.hid (by rw [hV8]; exact setRow_heap _ _ _ xd _ _ ho8)
      have hown8 : V8.ownsRow w.heap.size DgT 32 u3 k (flatD ls k) := by
        obtain ⟨a1, a2⟩ := HOW.out
        refine ⟨a1, ?_⟩
        rcases a2 with a2 | ⟨g, cap, cur, hv, hbg, hh, hr⟩
        · exact .inl a2
        · exact .inr ⟨g, cap, cur, hv, hbg, (hb8.block g (blk_lt hh)).trans hh, hr⟩
      have HOW8 := Lib.hid hown8
      have HB8 := Lib.hid (HB.out.trans (hb8.mono HB.out.size))
      have HXD := Lib.hid hxd
      have HV8 := Lib.hid hV8
      clear hrg hxd hx2 hone ho8 hV8 hb8 hown8
      go_wp2_with (first
        | (with_reducible refine wpList_load_mid rfl 33 (.tmp 10) rfl b (o + k * 32) rfl xd.toList _ HR.out Try.underlying33 rfl HIL.out ?_)
        | (with_reducible refine wpList_store_row rfl 33 (.tmp 5) (.tmp 11) rfl _ _ rfl (by simp [Act.eval, Act.put]) 33 _ HO8.out HI.out HZ.out HO.out ?_; rw [← HV8.out])
        | (with_reducible refine wpList_load_row rfl 33 (.tmp 5) rfl _ rfl 33 _ _ _ HP8.out Try.underlying33 rfl HI.out ?_)
        | (with_reducible refine wpList_build1 rfl (.tmp 13) rfl xd HX2.out (by simp [Act.eval, Act.put]) ?_)
        | (at_builtin; refine wp_appD V8 rfl (.tmp 12) (.tmp 14) rfl w.heap.size u3 k (flatD ls k) xd HX2.out HO.out rfl HOW8.out rfl (by omega) HB8.out.size ?_; intro v' w1 hown1 hb1; have HOW1 := Lib.hid hown1; have HB1 := Lib.hid (HB8.out.trans hb1); clear hown1 hb1))
      go_roundg (n - (k + 1))
      case measure => omega
      case rel => exact ⟨k + 1, by go_num, by omega, by rw [flatD_snoc, ← HXD.out]; exact HOW1.out, HB1.out⟩
    · obtain rfl : k = n := by omega
      have HE := Lib.hid (tdig_end HOW.out HB.out HH.out.2)
      go_wp2_with fail
      go_ret
      exact HE.out
theorem few_small (n c : Nat) (A : Option Addr) (w : World) (hn : n ≤ 20) : Calls Try.prog 8 #[.slice A n c] w fun e w' => e = .returned (.slice A n c) ∧ w = w' := by
  have h1 : ¬ (20 : Int) < (n : Int) := by omega
  go_enter Try.func8, Try.ntmps8
  go_wp2
  go_ret
  exact ⟨rfl, rfl⟩
theorem few_big (n c b o : Nat) (w : World) (hn : 20 < n) (hc : n ≤ c) (hcm : c ≤ 9223372036854775807) : Calls Try.prog 8 #[.slice (some ⟨b, o, none⟩) n c] w fun e w' => e = .returned (.slice (some ⟨b, o, none⟩) 20 c) ∧ w = w' := by
  have h1 : (20 : Int) < (n : Int) := by omega
  have h2 : 20 < n := hn
  go_enter Try.func8, Try.ntmps8
  go_wp2
  go_ret
  exact ⟨rfl, rfl⟩
theorem tnew_zero (b c : Nat) (A : Option Addr) (w : World) : Calls Try.prog 9 #[.pointer (some ⟨b, 0, none⟩), .slice A 0 c] w fun e w' => e = .returned (.tuple #[.pointer none, .int .i64 1]) ∧ w = w' := by
  have HF := Lib.hid (fun W => fits_t 0 W)
  have hd : decide (1 ≤ 0 ∧ 0 ≤ 1024) = false := rfl
  rw [hd, show ((0 : Nat) : Int) = 0 from rfl] at HF
  clear hd
  go_enter Try.func9, Try.ntmps9
  go_wp2_with fail
  refine (HF.out _).mono ?_
  rintro e w' ⟨rfl, rfl⟩
  go_wp2_with fail
  exact bodyPost_ret (v := .tuple #[.pointer none, .int .i64 1]) (by simp [results, Try.results9, go_sem]) rfl ⟨rfl, rfl⟩
end
section
open Go.RowKit Go Go.WideShapes Go.ChangeShapes Go.Deep
set_option linter.unusedVariables false
set_option linter.unusedSimpArgs false
section
variable {H : Type} {enc : TypeId × Value → H} {w : World}
theorem cells_u8t : Try.prog.cellsOf 5 = 1 := by kernel_rfl
theorem cells_d32t : Try.prog.cellsOf 33 = 32 := by kernel_rfl
theorem d32_cells {m : Nat} {cs : List Value} {x : DataW H × List MemPlace} (hlen : cs.length = 32) (h : DataW.trod enc Try.prog w 0 (fun _ => true) true m 33 cs = some x) : ∃ l : List Nat, IsDig l ∧ cs = (dA l).toList := by
  obtain ⟨xs, k2, _, _, hl2, hxl, hel⟩ := DataW.trod_array Try.underlying33 h
  have hcell : ∀ i, i < 32 → ∃ q : Nat, q < 256 ∧ cs[i]? = some (.int .u8 (q : Int)) := fun i hi => by
    have h2 := hel i hi
    rw [cells_u8t, Nat.mul_one] at h2
    obtain ⟨y, hy⟩ : ∃ y, xs[i]? = some y := ⟨_, List.getElem?_eq_getElem (by omega)⟩
    rw [hy] at h2
    obtain ⟨z2, hz2, _, hw2⟩ := DataW.trod_int Try.underlying5 h2
    obtain ⟨q, hq, rfl⟩ := nat_u8 hw2
    refine ⟨q, hq, ?_⟩
    have h3 := congrArg (fun l => l[0]?) hz2
    simp only [List.getElem?_cons_zero] at h3
    rw [← h3, List.getElem?_take_of_lt (by omega), List.getElem?_drop]
    rfl
  have hq : ∀ i, ∃ q : Nat, i < 32 → q < 256 ∧ cs[i]? = some (.int .u8 (q : Int)) := fun i => by
    by_cases hi : i < 32
    · obtain ⟨q, h2⟩ := hcell i hi; exact ⟨q, fun _ => h2⟩
    · exact ⟨0, fun h => absurd h hi⟩
  obtain ⟨f, hf⟩ := Classical.skolem.1 hq
  have hg : ∀ j, j < 32 → ((List.range 32).map f).getD j 0 = f j := fun j hj => by rw [List.getD_eq_getElem?_getD, List.getElem?_map, List.getElem?_range hj]; rfl
  refine ⟨(List.range 32).map f, ⟨by simp, fun j => ?_⟩, List.ext_getElem? fun j => ?_⟩
  · by_cases hj : j < 32
    · rw [hg j hj]; exact (hf j hj).1
    · rw [List.getD_eq_getElem?_getD, List.getElem?_eq_none (by simp; omega)]; simp
  · by_cases hj : j < 32
    · rw [(hf j hj).2, Array.getElem?_toList, rowV_at _ hj]
      unfold bF
      rw [hg j hj]
      rfl
    · rw [List.getElem?_eq_none (by omega), List.getElem?_eq_none (by simp [rowV_size]; omega)]
theorem d32s_open {A : Option Addr} {n c : Nat} {d : DataW H} {p : List MemPlace} (h : DataW.Trod enc Try.prog w 0 (fun _ => true) true 22 (.slice A n c) d p) : (∃ ls, DgS w A n ls) ∧ n ≤ c ∧ c ≤ 9223372036854775807 := by
  obtain ⟨fuel, hfu⟩ := h
  rcases open_slice Try.underlying22 hfu with ⟨hcs, _⟩ | ⟨a, len, cap, m, k, D, Pl, hcs, _, hl, hm, hmm, _, hi⟩
  · simp [Value.cells] at hcs
    obtain ⟨rfl, rfl, rfl⟩ := hcs
    exact ⟨⟨fun _ => zero32L, fun h => absurd h (by omega), fun _ => zero32_dig⟩, by omega, by omega⟩
  · simp [Value.cells] at hcs
    obtain ⟨rfl, rfl, rfl⟩ := hcs
    have hm2 : m = c := by simpa using hmm
    refine ⟨?_, hl, by unfold maxLen at hm; omega⟩
    have key : ∀ i, ∃ l : List Nat, IsDig l ∧ (i < n → ∀ j v, (dA l).toList[j]? = some v → w.cell? ((a.add (i * 32)).add j) = some v) := fun i => by
      by_cases hin : i < n
      · obtain ⟨cs', hc, ht'⟩ := hi i (by omega)
        rw [cells_d32t] at hc
        obtain ⟨_, hcl, hat⟩ := World.cells?_some hc
        obtain ⟨l, h1, h2⟩ := d32_cells hcl ht'
        refine ⟨l, h1, fun _ j v hv => ?_⟩
        have hj : j < 32 := by have := (List.getElem?_eq_some_iff.1 hv).1; simpa [rowV_size] using this
        rw [hat j hj, h2]; exact hv
      · exact ⟨zero32L, zero32_dig, fun x => absurd x hin⟩
    obtain ⟨ls, hls⟩ := Classical.skolem.1 key
    refine ⟨ls, fun hn0 => ?_, fun k => (hls k).1⟩
    obtain ⟨b, off, spot⟩ := a
    have hk0 := (hls 0).2 hn0
    have h00 : (dA (ls 0)).toList[0]? = some (bF (ls 0) 0) := by rw [Array.getElem?_toList]; exact rowV_at _ (by omega)
    have hc0 := hk0 0 _ h00
    have hspot : spot = none := by simpa [Addr.add] using World.cell?_spot hc0
    subst hspot
    refine ⟨b, off, rfl, by simpa [Go.WideShapes.add_plain] using block_lt_of_cell hc0, fun i hin j v hv => ?_⟩
    have := (hls i).2 hin j v hv
    rwa [Go.WideShapes.add_plain, Go.WideShapes.add_plain] at this
end
end
section
open Go.RowKit Go
set_option linter.unusedVariables false
set_option linter.unusedSimpArgs false
set_option maxHeartbeats 8000000 in
set_option maxRecDepth 100000 in
theorem treeRoot_small (n0 n c : Nat) (A0 A : Option Addr) (ls : Nat → List Nat) (k : Int) (w : World) (hds : DgS w A n ls) (hn : n ≤ 20) (hc : n ≤ c) (hkb : k ≤ 9223372036854775807)
    (hfew : Calls Try.prog 8 #[.slice A0 n0 c] w fun e w' => e = .returned (.slice A n c) ∧ w = w') :
    Calls Try.prog 3 #[.slice A0 n0 c, .int .i64 k] w fun e w' => e = .returned (.bool true) ∧ Below w.heap.size w w' := by
  have HDS := Lib.hid hds
  have HFEW := Lib.hid hfew
  have hz := zero32
  clear hds hfew
  go_enter Try.func3, Try.ntmps3
  go_wp2_with fail
  refine HFEW.out.mono ?_
  rintro e w' ⟨rfl, rfl⟩
  go_wp2_with fail
  refine (book12_any _).mono ?_
  rintro e w1 ⟨b, g, S, rfl, hbk, hS, hb1⟩
  have HBK := Lib.hid hbk
  have HS := Lib.hid hS
  have HB1 := Lib.hid hb1
  clear hbk hS hb1
  go_wp2_with fail
  refine (digests_any n c A ls w1 (HDS.out.below HB1.out) hn).mono ?_
  rintro e w2 ⟨A2, c2, rfl, hc2, hd2, hb2⟩
  have HD2 := Lib.hid hd2
  have HB2 : Hid (Below w.heap.size w w2) := Lib.hid (HB1.out.trans (hb2.mono HB1.out.size))
  have HBK2 := Lib.hid (HBK.out.below hb2)
  clear hd2 hb2
  by_cases hn0 : n = 0
  · subst hn0

    go_wp2_with fail
    refine (tnew_zero b c2 A2 _).mono ?_
    rintro e w3 ⟨rfl, rfl⟩
    go_wp2_with fail
    refine (awake12_any _).mono ?_
    rintro e w4 ⟨rfl, hb4⟩
    have HB4 := Lib.hid (HB2.out.trans (hb4.mono HB2.out.size))
    clear hb4
    go_wp2
    go_ret
    exact ⟨rfl, HB4.out⟩
  · have hn1 : 1 ≤ n := by omega
    have hnz : ((n : Int) == 0) = false := by rw [beq_eq_false_iff_ne]; omega
    have HNEW := Lib.hid (tnew_any b g n c2 A2 ls S [] [] w2 HBK2.out HD2.out hn1 hn hc2)
    go_wp2_with fail
    refine HNEW.out.mono ?_
    rintro e w3 ⟨T, lb, cap, q, F, S', Tx, sh, rfl, htr, hrr, hf0, hbk6, hs6, hap6, ht6⟩
    have hFE : F (dpt n) 0 = treeAt (mixX n ls) (dpt n) 0 := right_tree hrr hf0 (dpt n) 0 (Nat.le_refl _) (by simp)
    obtain ⟨da, hda⟩ : ∃ da, da = digA (txt 2 [putL 4 n, treeAt (mixX n ls) (dpt n) 0]) := ⟨_, rfl⟩
    have HDA := Lib.hid hda
    have HEQ : Hid (∀ W, (binOp .eql 34 (.agg da) (.agg da)).run Try.prog W = .ok (.bool true) W) := Lib.hid (fun W => by rw [hda, bk_dig_eq]; simp)
    have HRR := Lib.hid (fun W (hW : Below w.heap.size w W) => rroot_any n c A ls hn1 hn hc W (HDS.out.below hW))
    have HFE := Lib.hid hFE
    have HTRX := Lib.hid htr
    have HBKX := Lib.hid hbk6
    have HF0 := Lib.hid hf0
    have HAPT : Hid (∀ j, trS T lb (dpt n) q j → ¬ S' j) := Lib.hid (fun j hj => (hap6 j hj).1)
    have HS2 : Hid (∀ j, S' j → w.heap.size ≤ j) := Lib.hid (fun j hj => by
      rcases hs6 j hj with x | x
      · exact Nat.le_trans (Nat.le_refl _) (HS.out j x)
      · have := HB2.out.size; omega)
    have HBW3 : Hid (Below w.heap.size w w3) := Lib.hid (HB2.out.trans (ht6.below HB2.out.size (fun j hj => HS.out j hj)))
    obtain ⟨xk, hxk⟩ : ∃ z, z = dA (leafK n ls k) := ⟨_, rfl⟩
    have hx2 : xk.size = 32 := by rw [hxk, rowV_size]
    have hld : IsDig (leafK n ls k) := by
      unfold leafK
      split
      · exact HDS.out.2 _
      · exact zero32_dig
    have HXK := Lib.hid hxk
    have HIK := Lib.hid (info_d32 hx2)
    have HOK : Hid (xk.all (·.oneCell') = true) := Lib.hid (by rw [hxk]; exact dA_one _)
    have HZK : Hid ((zeros 32).size = xk.size) := Lib.hid (by rw [hx2]; simp [zeros])
    have HEK : Hid (∀ W, (binOp .eql 34 (.agg xk) (.agg xk)).run Try.prog W = .ok (.bool true) W) := Lib.hid (fun W => by
      have h := equal_row 34 32 Try.underlying34 (leafK n ls k) (leafK n ls k) hld.1 hld.1 W
      rw [hxk]
      simp [binOp, Op.equal, Op.maxDepth, h, Result.andThen])
    generalize dpt n = D at *
    clear htr hrr hf0 hbk6 hs6 hap6 ht6 hFE hda hxk hx2 hld HNEW
    by_cases hin : (0 : Int) ≤ k ∧ k < (n : Int)
    · have hkk : (0 : Int) ≤ k ∧ k < (n : Int) := hin
      obtain ⟨i, rfl⟩ : ∃ i : Nat, k = (i : Int) := ⟨k.toNat, by omega⟩
      have hi : i < n := by omega
      have hii : (i : Int) < (n : Int) := by omega
      have hi0 : (0 : Int) ≤ (i : Int) := by omega
      obtain ⟨b9, o9, rfl, hbl9, hrg9⟩ := HDS.out.1 (by omega)
      have hxa : xk.toList.toArray = xk := by simp
      have ho7 := heap_alloc_new w3 (.cells (zeros 32) 33)
      have HO7 := Lib.hid ho7
      obtain ⟨V, hV⟩ : ∃ V, V = (w3.alloc (.cells (zeros 32) 33)).setRow w3.heap.size xk := ⟨_, rfl⟩
      have HRK : Hid ((w3.alloc (.cells (zeros 32) 33)).rangeAt b9 (o9 + i * 32) xk.toList) := Lib.hid (by
        rw [HXK.out]
        have e1 : leafK n ls (i : Int) = ls i := by unfold leafK; rw [if_pos ⟨hi0, hii⟩, Int.toNat_natCast]
        rw [e1]
        exact range_of ((Below.heap_alloc _ _ _ (Nat.lt_of_lt_of_le hbl9 HBW3.out.size)).trans (HBW3.out.block b9 hbl9)) (hrg9 i hi))
      have HIKL : Hid ((Try.prog.info? 33).map (·.size) = some xk.toList.length) := Lib.hid (by rw [Array.length_toList]; exact HIK.out)
      obtain ⟨p7, hp7⟩ : ∃ p, p = w3.heap.size := ⟨_, rfl⟩
      have HP7E := Lib.hid hp7
      have hb7 : Below w3.heap.size w3 V := by rw [hV]; exact below_setRow (g := w3.heap.size) ((Below.refl _ _).alloc (Nat.le_refl _) _) (Nat.le_refl _) xk
      have HP7 : Hid (V.drew.heap[p7]? = some (.cells xk 33 (0, 0))) := Lib.hid (by show V.heap[p7]? = _; rw [hV, hp7]; exact setRow_heap _ _ _ xk _ _ ho7)
      have htr7 := HTRX.out.next hb7
      have hbk7 := HBKX.out.below hb7
      have HTR := Lib.hid htr7
      have HROOT := Lib.hid (fun W (hW : Below V.heap.size V W) => troot_m T b g n D lb cap q F S' Tx sh W (htr7.next hW) (hbk7.below hW) (HAPT.out T (.inl rfl)) (by omega))
      have HBW7 : Hid (Below w.heap.size w V) := Lib.hid (HBW3.out.trans (hb7.mono HBW3.out.size))
      have HNP : Hid (¬ S' p7) := Lib.hid (fun x => by have := HBKX.out.sub x; omega)
      have HV := Lib.hid hV
      clear hb7 htr7 hbk7 hV hp7
      clear hrg9 ho7 hkk
      go_upto_region 8 with (first
        | (with_reducible refine wpList_load_mid rfl 33 (.tmp 39) rfl b9 (o9 + i * 32) rfl xk.toList _ HRK.out Try.underlying33 rfl HIKL.out ?_)
        | (with_reducible refine wpList_store_row rfl 33 (.tmp 7) (.tmp 40) rfl _ _ rfl (by simp [Act.eval, Act.put]) 33 _ HO7.out HIK.out HZK.out HOK.out ?_))
      rw [← HV.out, ← HP7E.out]
      refine wp_region_F (S := (fun W : World => W.heap[p7]? = some (.cells xk 33 (0, 0)))) [] (by kernel_rfl) (HP7.out) (fun hHeld => ?_)
      refine wpAnyF_take (i := 0) (oi := _) (v := ?_) rfl (by kernel_rfl) (by kernel_rfl) (by kernel_rfl) (by kernel_rfl) (fun _ _ _ h => h) (Or.inl ⟨by rfl, ?_⟩) (by assumption) ?_
      rotate_left 1
      · intro w hSw
        (try dsimp only at hSw)
        (first | (go_simp; done) | (go_simp; with_reducible rfl))
      (try simp only [Act.put, List.getElem_toArray, List.getElem_cons_succ, List.getElem_cons_zero, List.setIfInBounds_toArray, List.set_cons_zero, List.set_cons_succ])
      refine wpAnyF_take (i := 1) (oi := _) (v := ?_) rfl (by kernel_rfl) (by kernel_rfl) (by kernel_rfl) (by kernel_rfl) (fun _ _ _ h => h) (Or.inl ⟨by rfl, ?_⟩) (by assumption) ?_
      rotate_left 1
      · intro w hSw
        (try dsimp only at hSw)
        (first | (go_simp; done) | (go_simp; with_reducible rfl))
      (try simp only [Act.put, List.getElem_toArray, List.getElem_cons_succ, List.getElem_cons_zero, List.setIfInBounds_toArray, List.set_cons_zero, List.set_cons_succ])
      refine wpAnyF_take (i := 2) (oi := _) (v := ?_) rfl (by kernel_rfl) (by kernel_rfl) (by kernel_rfl) (by kernel_rfl) (fun _ _ _ h => h) (Or.inl ⟨by rfl, ?_⟩) (by assumption) ?_
      rotate_left 1
      · intro w hSw
        (try dsimp only at hSw)
        (first | (go_simp; done) | (go_simp; with_reducible rfl))
      (try simp only [Act.put, List.getElem_toArray, List.getElem_cons_succ, List.getElem_cons_zero, List.setIfInBounds_toArray, List.set_cons_zero, List.set_cons_succ])
      refine wpAnyF_take (i := 3) (oi := _) (v := ?_) rfl (by kernel_rfl) (by kernel_rfl) (by kernel_rfl) (by kernel_rfl) (fun _ _ _ h => h) (Or.inl ⟨by rfl, ?_⟩) (by assumption) ?_
      rotate_left 1
      · intro w hSw
        (try dsimp only at hSw)
        (first | (go_simp; done) | (go_simp; with_reducible rfl))
      (try simp only [Act.put, List.getElem_toArray, List.getElem_cons_succ, List.getElem_cons_zero, List.setIfInBounds_toArray, List.set_cons_zero, List.set_cons_succ])
      refine wpAnyF_take (i := 5) (oi := _) (v := ?_) rfl (by kernel_rfl) (by kernel_rfl) (by kernel_rfl) (by kernel_rfl) (fun _ _ _ h => h) (Or.inl ⟨by rfl, ?_⟩) (by assumption) ?_
      rotate_left 1
      · intro w hSw
        (try dsimp only at hSw)
        (first | (go_simp; done) | (go_simp; with_reducible rfl))
      (try simp only [Act.put, List.getElem_toArray, List.getElem_cons_succ, List.getElem_cons_zero, List.setIfInBounds_toArray, List.set_cons_zero, List.set_cons_succ])
      refine wpAnyF_ready (rs := [4]) (by kernel_rfl) (by simp) ?_
      refine AllReadyF.cons (o := _) rfl (fun K hK => ?_) AllReadyF.nil
      go_simp
      refine (HROOT.out _ ((Below.refl _ _).drew)).mono ?_
      intro e w9 hsum
      have HT9 := Lib.hid hsum.2.1
      have he := hsum.1
      subst he
      rw [HFE.out, ← HDA.out]
      clear hsum
      have HTR9 := Lib.hid ((HTR.out.next (Below.refl _ _).drew).keep HT9.out HAPT.out)
      have HBW9 : Hid (Below w.heap.size w w9) := Lib.hid (HBW7.out.drew.trans (Turns.below HT9.out HBW7.out.size HS2.out))
      refine hK.out _ _ ((HT9.out.block _ (blk_lt HP7.out) HNP.out).trans HP7.out) (fun hHeld4 => ?_)
      clear hK K
      (try simp only [Act.put, List.getElem_toArray, List.getElem_cons_succ, List.getElem_cons_zero, List.setIfInBounds_toArray, List.set_cons_zero, List.set_cons_succ])
      refine wpAnyF_ready (rs := [6]) (by kernel_rfl) (by simp) ?_
      refine AllReadyF.cons (o := _) rfl (fun K hK => ?_) AllReadyF.nil
      go_simp
      refine (HRR.out _ HBW9.out).mono ?_
      rintro e w8 ⟨rfl, hb8⟩
      have HTR8 := Lib.hid (HTR9.out.next hb8)
      have HBW8 : Hid (Below w.heap.size w w8) := Lib.hid (HBW9.out.trans (hb8.mono HBW9.out.size))
      have HH8 := Lib.hid ((hb8.block _ (blk_lt hHeld4)).trans hHeld4)
      rw [← HDA.out]
      clear hb8
      refine hK.out _ _ (HH8.out) (fun hHeld6 => ?_)
      clear hK K
      (try simp only [Act.put, List.getElem_toArray, List.getElem_cons_succ, List.getElem_cons_zero, List.setIfInBounds_toArray, List.set_cons_zero, List.set_cons_succ])
      refine wpAnyF_take (i := 7) (oi := _) (v := _) rfl (by kernel_rfl) (by kernel_rfl) (by kernel_rfl) (by kernel_rfl) (fun _ _ _ h => h) (.inl ⟨by with_unfolding_all rfl, fun w h => exec_bin .eql 34 34 (.tmp 45) (.tmp 47) rfl (.agg da) (.agg da) (.bool true) rfl rfl (bk_guard _ _ _ _ _) (HEQ.out w)⟩) (by assumption) ?_
      (try simp only [Act.put, List.getElem_toArray, List.getElem_cons_succ, List.getElem_cons_zero, List.setIfInBounds_toArray, List.set_cons_zero, List.set_cons_succ])
      refine wpAnyF_take (i := 8) (oi := _) (v := ?_) rfl (by kernel_rfl) (by kernel_rfl) (by kernel_rfl) (by kernel_rfl) (fun _ _ _ h => h) (Or.inl ⟨by rfl, ?_⟩) (by assumption) ?_
      rotate_left 1
      · intro w hSw
        (try dsimp only at hSw)
        (first | (go_simp; done) | (go_simp; with_reducible rfl))
      (try simp only [Act.put, List.getElem_toArray, List.getElem_cons_succ, List.getElem_cons_zero, List.setIfInBounds_toArray, List.set_cons_zero, List.set_cons_succ])
      refine wpAnyF_take (i := 9) (oi := _) (v := ?_) rfl (by kernel_rfl) (by kernel_rfl) (by kernel_rfl) (by kernel_rfl) (fun _ _ _ h => h) (Or.inl ⟨by rfl, ?_⟩) (by assumption) ?_
      rotate_left 1
      · intro w hSw
        (try dsimp only at hSw)
        (first | (go_simp; done) | (go_simp; with_reducible rfl))
      (try simp only [Act.put, List.getElem_toArray, List.getElem_cons_succ, List.getElem_cons_zero, List.setIfInBounds_toArray, List.set_cons_zero, List.set_cons_succ])
      refine wpAnyF_take (i := 10) (oi := _) (v := ?_) rfl (by kernel_rfl) (by kernel_rfl) (by kernel_rfl) (by kernel_rfl) (fun _ _ _ h => h) (Or.inl ⟨by rfl, ?_⟩) (by assumption) ?_
      rotate_left 1
      · intro w hSw
        (try dsimp only at hSw)
        (first | (go_simp; done) | (go_simp; with_reducible rfl))
      (try simp only [Act.put, List.getElem_toArray, List.getElem_cons_succ, List.getElem_cons_zero, List.setIfInBounds_toArray, List.set_cons_zero, List.set_cons_succ])
      refine wpAnyF_take (i := 12) (oi := _) (v := ?_) rfl (by kernel_rfl) (by kernel_rfl) (by kernel_rfl) (by kernel_rfl) (fun _ _ _ h => h) (Or.inl ⟨by rfl, ?_⟩) (by assumption) ?_
      rotate_left 1
      · intro w hSw
        (try dsimp only at hSw)
        (first | (go_simp; done) | (go_simp; with_reducible rfl))
      (try simp only [Act.put, List.getElem_toArray, List.getElem_cons_succ, List.getElem_cons_zero, List.setIfInBounds_toArray, List.set_cons_zero, List.set_cons_succ])
      refine wpAnyF_take (i := 13) (oi := _) (v := ?_) rfl (by kernel_rfl) (by kernel_rfl) (by kernel_rfl) (by kernel_rfl) (fun _ _ _ h => h) (Or.inl ⟨by rfl, ?_⟩) (by assumption) ?_
      rotate_left 1
      · intro w hSw
        (try dsimp only at hSw)
        (first | (go_simp; done) | (go_simp; with_reducible rfl))
      (try simp only [Act.put, List.getElem_toArray, List.getElem_cons_succ, List.getElem_cons_zero, List.setIfInBounds_toArray, List.set_cons_zero, List.set_cons_succ])
      refine wpAnyF_ready (rs := [11]) (by kernel_rfl) (by simp) ?_
      refine AllReadyF.cons (o := _) rfl (fun K hK => ?_) AllReadyF.nil
      go_simp
      refine (tlen_any T b n D lb cap q F _ HTR8.out).mono ?_
      rintro e w10 ⟨rfl, rfl⟩
      refine hK.out _ _ (hHeld6) (fun hHeld11 => ?_)
      clear hK K
      (try simp only [Act.put, List.getElem_toArray, List.getElem_cons_succ, List.getElem_cons_zero, List.setIfInBounds_toArray, List.set_cons_zero, List.set_cons_succ])
      refine wpAnyF_take (i := 14) (oi := _) (v := ?_) rfl (by kernel_rfl) (by kernel_rfl) (by kernel_rfl) (by kernel_rfl) (fun _ _ _ h => h) (Or.inl ⟨by rfl, ?_⟩) (by assumption) ?_
      rotate_left 1
      · intro w hSw
        (try dsimp only at hSw)
        (first | (go_simp; done) | (go_simp; with_reducible rfl))
      (try simp only [Act.put, List.getElem_toArray, List.getElem_cons_succ, List.getElem_cons_zero, List.setIfInBounds_toArray, List.set_cons_zero, List.set_cons_succ])
      refine wpAnyF_take (i := 15) (oi := _) (v := ?_) rfl (by kernel_rfl) (by kernel_rfl) (by kernel_rfl) (by kernel_rfl) (fun _ _ _ h => h) (Or.inl ⟨by rfl, ?_⟩) (by assumption) ?_
      rotate_left 1
      · intro w hSw
        (try dsimp only at hSw)
        (first | (go_simp; done) | (go_simp; with_reducible rfl))
      (try simp only [Act.put, List.getElem_toArray, List.getElem_cons_succ, List.getElem_cons_zero, List.setIfInBounds_toArray, List.set_cons_zero, List.set_cons_succ])
      refine wpAnyF_take (i := 16) (oi := _) (v := ?_) rfl (by kernel_rfl) (by kernel_rfl) (by kernel_rfl) (by kernel_rfl) (fun _ _ _ h => h) (Or.inl ⟨by rfl, ?_⟩) (by assumption) ?_
      rotate_left 1
      · intro w hSw
        (try dsimp only at hSw)
        (first | (go_simp; done) | (go_simp; with_reducible rfl))
      (try simp only [Act.put, List.getElem_toArray, List.getElem_cons_succ, List.getElem_cons_zero, List.setIfInBounds_toArray, List.set_cons_zero, List.set_cons_succ])
      refine wpAnyF_take (i := 17) (oi := _) (v := ?_) rfl (by kernel_rfl) (by kernel_rfl) (by kernel_rfl) (by kernel_rfl) (fun _ _ _ h => h) (Or.inl ⟨by rfl, ?_⟩) (by assumption) ?_
      rotate_left 1
      · intro w hSw
        (try dsimp only at hSw)
        (first | (go_simp; done) | (go_simp; with_reducible rfl))
      (try simp only [Act.put, List.getElem_toArray, List.getElem_cons_succ, List.getElem_cons_zero, List.setIfInBounds_toArray, List.set_cons_zero, List.set_cons_succ])
      refine wpAnyF_take (i := 18) (oi := _) (v := ?_) rfl (by kernel_rfl) (by kernel_rfl) (by kernel_rfl) (by kernel_rfl) (fun _ _ _ h => h) (Or.inl ⟨by rfl, ?_⟩) (by assumption) ?_
      rotate_left 1
      · intro w hSw
        (try dsimp only at hSw)
        (first | (go_simp; done) | (go_simp; with_reducible rfl))
      (try simp only [Act.put, List.getElem_toArray, List.getElem_cons_succ, List.getElem_cons_zero, List.setIfInBounds_toArray, List.set_cons_zero, List.set_cons_succ])
      refine wpAnyF_take (i := 20) (oi := _) (v := _) rfl (by kernel_rfl) (by kernel_rfl) (by kernel_rfl) (by kernel_rfl) (fun _ _ _ h => h) (yields_rowP (by with_unfolding_all rfl) 33 (.tmp 7) rfl p7 0 rfl xk _ (fun W h j v hv => by rw [Nat.zero_add, blk_cell h j]; simpa using hv) Try.underlying33 rfl HIK.out) (by assumption) ?_
      (try simp only [Act.put, List.getElem_toArray, List.getElem_cons_succ, List.getElem_cons_zero, List.setIfInBounds_toArray, List.set_cons_zero, List.set_cons_succ])
      refine wpAnyF_ready (rs := [19]) (by kernel_rfl) (by simp) ?_
      refine AllReadyF.cons (o := _) rfl (fun K hK => ?_) AllReadyF.nil
      go_simp
      refine (tat_any T b n D lb cap (i : Int) ls q F _ HTR8.out HF0.out hkb).mono ?_
      rintro e w11 ⟨rfl, hb11⟩
      rw [← HXK.out]
      have HB11 : Hid (Below w.heap.size w w11) := Lib.hid (HBW8.out.trans (hb11.mono HBW8.out.size))
      have HH11 := Lib.hid ((hb11.block _ (blk_lt hHeld11)).trans hHeld11)
      clear hb11
      refine hK.out _ _ (HH11.out) (fun hHeld19 => ?_)
      clear hK K
      (try simp only [Act.put, List.getElem_toArray, List.getElem_cons_succ, List.getElem_cons_zero, List.setIfInBounds_toArray, List.set_cons_zero, List.set_cons_succ])
      refine wpAnyF_take (i := 21) (oi := _) (v := _) rfl (by kernel_rfl) (by kernel_rfl) (by kernel_rfl) (by kernel_rfl) (fun _ _ _ h => h) (.inl ⟨by with_unfolding_all rfl, fun w h => exec_bin .eql 34 34 (.tmp 60) (.tmp 61) rfl (.agg xk) (.agg xk) (.bool true) rfl rfl (bk_guard _ _ _ _ _) (HEK.out w)⟩) (by assumption) ?_
      (try simp only [Act.put, List.getElem_toArray, List.getElem_cons_succ, List.getElem_cons_zero, List.setIfInBounds_toArray, List.set_cons_zero, List.set_cons_succ])
      refine wpAnyF_take (i := 22) (oi := _) (v := ?_) rfl (by kernel_rfl) (by kernel_rfl) (by kernel_rfl) (by kernel_rfl) (fun _ _ _ h => h) (Or.inl ⟨by rfl, ?_⟩) (by assumption) ?_
      rotate_left 1
      · intro w hSw
        (try dsimp only at hSw)
        (first | (go_simp; done) | (go_simp; with_reducible rfl))
      (try simp only [Act.put, List.getElem_toArray, List.getElem_cons_succ, List.getElem_cons_zero, List.setIfInBounds_toArray, List.set_cons_zero, List.set_cons_succ])
      refine wpAnyF_take (i := 23) (oi := _) (v := ?_) rfl (by kernel_rfl) (by kernel_rfl) (by kernel_rfl) (by kernel_rfl) (fun _ _ _ h => h) (Or.inl ⟨by rfl, ?_⟩) (by assumption) ?_
      rotate_left 1
      · intro w hSw
        (try dsimp only at hSw)
        (first | (go_simp; done) | (go_simp; with_reducible rfl))
      (try simp only [Act.put, List.getElem_toArray, List.getElem_cons_succ, List.getElem_cons_zero, List.setIfInBounds_toArray, List.set_cons_zero, List.set_cons_succ])
      refine wpAnyF_ready (rs := [24]) (by kernel_rfl) (by simp) ?_
      refine AllReadyF.cons (o := _) rfl (fun K hK => ?_) AllReadyF.nil
      go_simp
      refine (awake12_any _).mono ?_
      rintro e w12 ⟨rfl, hb12⟩
      have HB12 : Hid (Below w.heap.size w w12) := Lib.hid (HB11.out.trans (hb12.mono HB11.out.size))
      have HH12 := Lib.hid ((hb12.block _ (blk_lt hHeld19)).trans hHeld19)
      clear hb12
      refine hK.out _ _ (HH12.out) (fun hHeld24 => ?_)
      clear hK K
      (try simp only [Act.put, List.getElem_toArray, List.getElem_cons_succ, List.getElem_cons_zero, List.setIfInBounds_toArray, List.set_cons_zero, List.set_cons_succ])
      refine wpAnyF_take (i := 25) (oi := _) (v := ?_) rfl (by kernel_rfl) (by kernel_rfl) (by kernel_rfl) (by kernel_rfl) (fun _ _ _ h => h) (Or.inl ⟨by rfl, ?_⟩) (by assumption) ?_
      rotate_left 1
      · intro w hSw
        (try dsimp only at hSw)
        (first | (go_simp; done) | (go_simp; with_reducible rfl))
      (try simp only [Act.put, List.getElem_toArray, List.getElem_cons_succ, List.getElem_cons_zero, List.setIfInBounds_toArray, List.set_cons_zero, List.set_cons_succ])
      refine wpAnyF_take (i := 26) (oi := _) (v := ?_) rfl (by kernel_rfl) (by kernel_rfl) (by kernel_rfl) (by kernel_rfl) (fun _ _ _ h => h) (Or.inl ⟨by rfl, ?_⟩) (by assumption) ?_
      rotate_left 1
      · intro w hSw
        (try dsimp only at hSw)
        (first | (go_simp; done) | (go_simp; with_reducible rfl))
      (try simp only [Act.put, List.getElem_toArray, List.getElem_cons_succ, List.getElem_cons_zero, List.setIfInBounds_toArray, List.set_cons_zero, List.set_cons_succ])
      refine wpAnyF_done (by kernel_rfl) ?_ _
      clear hHeld hHeld4 hHeld6 hHeld11 hHeld19 hHeld24
      go_wp2_with fail
      go_ret
      exact ⟨rfl, HB12.out⟩
    · have hkk : ¬ ((0 : Int) ≤ k ∧ k < (n : Int)) := hin
      have hkz : xk = zeros 32 := by
        rw [HXK.out]
        have e1 : leafK n ls k = zero32L := by unfold leafK; rw [if_neg hkk]
        rw [e1, zero32_cells]
      have hdk : decide (k < 0) = true ∨ (decide (k < 0) = false ∧ decide (k < (n : Int)) = false) := by
        by_cases c : k < 0
        · exact .inl (decide_eq_true c)
        · exact .inr ⟨decide_eq_false c, decide_eq_false (fun d => hkk ⟨by omega, d⟩)⟩
      obtain ⟨V, hV⟩ : ∃ V, V = w3.alloc (.cells xk 33) := ⟨_, rfl⟩
      obtain ⟨p7, hp7⟩ : ∃ p, p = w3.heap.size := ⟨_, rfl⟩
      have HP7E := Lib.hid hp7
      have hb7 : Below w3.heap.size w3 V := by rw [hV]; exact (Below.refl _ _).alloc (Nat.le_refl _) _
      have HP7 : Hid (V.drew.heap[p7]? = some (.cells xk 33 (0, 0))) := Lib.hid (by show V.heap[p7]? = _; rw [hV, hp7]; exact heap_alloc_new w3 _)
      have htr7 := HTRX.out.next hb7
      have hbk7 := HBKX.out.below hb7
      have HTR := Lib.hid htr7
      have HROOT := Lib.hid (fun W (hW : Below V.heap.size V W) => troot_m T b g n D lb cap q F S' Tx sh W (htr7.next hW) (hbk7.below hW) (HAPT.out T (.inl rfl)) (by omega))
      have HBW7 : Hid (Below w.heap.size w V) := Lib.hid (HBW3.out.trans (hb7.mono HBW3.out.size))
      have HNP : Hid (¬ S' p7) := Lib.hid (fun x => by have := HBKX.out.sub x; omega)
      have HV := Lib.hid hV
      clear hb7 htr7 hbk7 hV hp7
      have HKZ := Lib.hid hkz
      clear hkz hkk
      by_cases hk0 : (0 : Int) ≤ k
      · have hkn : ¬ k < (n : Int) := fun d => hin ⟨hk0, d⟩
        clear hdk
        go_upto_region 8 with (fail)
        rw [← HKZ.out, ← HV.out, ← HP7E.out]
        refine wp_region_F (S := (fun W : World => W.heap[p7]? = some (.cells xk 33 (0, 0)))) [] (by kernel_rfl) (HP7.out) (fun hHeld => ?_)
        refine wpAnyF_take (i := 0) (oi := _) (v := ?_) rfl (by kernel_rfl) (by kernel_rfl) (by kernel_rfl) (by kernel_rfl) (fun _ _ _ h => h) (Or.inl ⟨by rfl, ?_⟩) (by assumption) ?_
        rotate_left 1
        · intro w hSw
          (try dsimp only at hSw)
          (first | (go_simp; done) | (go_simp; with_reducible rfl))
        (try simp only [Act.put, List.getElem_toArray, List.getElem_cons_succ, List.getElem_cons_zero, List.setIfInBounds_toArray, List.set_cons_zero, List.set_cons_succ])
        refine wpAnyF_take (i := 1) (oi := _) (v := ?_) rfl (by kernel_rfl) (by kernel_rfl) (by kernel_rfl) (by kernel_rfl) (fun _ _ _ h => h) (Or.inl ⟨by rfl, ?_⟩) (by assumption) ?_
        rotate_left 1
        · intro w hSw
          (try dsimp only at hSw)
          (first | (go_simp; done) | (go_simp; with_reducible rfl))
        (try simp only [Act.put, List.getElem_toArray, List.getElem_cons_succ, List.getElem_cons_zero, List.setIfInBounds_toArray, List.set_cons_zero, List.set_cons_succ])
        refine wpAnyF_take (i := 2) (oi := _) (v := ?_) rfl (by kernel_rfl) (by kernel_rfl) (by kernel_rfl) (by kernel_rfl) (fun _ _ _ h => h) (Or.inl ⟨by rfl, ?_⟩) (by assumption) ?_
        rotate_left 1
        · intro w hSw
          (try dsimp only at hSw)
          (first | (go_simp; done) | (go_simp; with_reducible rfl))
        (try simp only [Act.put, List.getElem_toArray, List.getElem_cons_succ, List.getElem_cons_zero, List.setIfInBounds_toArray, List.set_cons_zero, List.set_cons_succ])
        refine wpAnyF_take (i := 3) (oi := _) (v := ?_) rfl (by kernel_rfl) (by kernel_rfl) (by kernel_rfl) (by kernel_rfl) (fun _ _ _ h => h) (Or.inl ⟨by rfl, ?_⟩) (by assumption) ?_
        rotate_left 1
        · intro w hSw
          (try dsimp only at hSw)
          (first | (go_simp; done) | (go_simp; with_reducible rfl))
        (try simp only [Act.put, List.getElem_toArray, List.getElem_cons_succ, List.getElem_cons_zero, List.setIfInBounds_toArray, List.set_cons_zero, List.set_cons_succ])
        refine wpAnyF_take (i := 5) (oi := _) (v := ?_) rfl (by kernel_rfl) (by kernel_rfl) (by kernel_rfl) (by kernel_rfl) (fun _ _ _ h => h) (Or.inl ⟨by rfl, ?_⟩) (by assumption) ?_
        rotate_left 1
        · intro w hSw
          (try dsimp only at hSw)
          (first | (go_simp; done) | (go_simp; with_reducible rfl))
        (try simp only [Act.put, List.getElem_toArray, List.getElem_cons_succ, List.getElem_cons_zero, List.setIfInBounds_toArray, List.set_cons_zero, List.set_cons_succ])
        refine wpAnyF_ready (rs := [4]) (by kernel_rfl) (by simp) ?_
        refine AllReadyF.cons (o := _) rfl (fun K hK => ?_) AllReadyF.nil
        go_simp
        refine (HROOT.out _ ((Below.refl _ _).drew)).mono ?_
        intro e w9 hsum
        have HT9 := Lib.hid hsum.2.1
        have he := hsum.1
        subst he
        rw [HFE.out, ← HDA.out]
        clear hsum
        have HTR9 := Lib.hid ((HTR.out.next (Below.refl _ _).drew).keep HT9.out HAPT.out)
        have HBW9 : Hid (Below w.heap.size w w9) := Lib.hid (HBW7.out.drew.trans (Turns.below HT9.out HBW7.out.size HS2.out))
        refine hK.out _ _ ((HT9.out.block _ (blk_lt HP7.out) HNP.out).trans HP7.out) (fun hHeld4 => ?_)
        clear hK K
        (try simp only [Act.put, List.getElem_toArray, List.getElem_cons_succ, List.getElem_cons_zero, List.setIfInBounds_toArray, List.set_cons_zero, List.set_cons_succ])
        refine wpAnyF_ready (rs := [6]) (by kernel_rfl) (by simp) ?_
        refine AllReadyF.cons (o := _) rfl (fun K hK => ?_) AllReadyF.nil
        go_simp
        refine (HRR.out _ HBW9.out).mono ?_
        rintro e w8 ⟨rfl, hb8⟩
        have HTR8 := Lib.hid (HTR9.out.next hb8)
        have HBW8 : Hid (Below w.heap.size w w8) := Lib.hid (HBW9.out.trans (hb8.mono HBW9.out.size))
        have HH8 := Lib.hid ((hb8.block _ (blk_lt hHeld4)).trans hHeld4)
        rw [← HDA.out]
        clear hb8
        refine hK.out _ _ (HH8.out) (fun hHeld6 => ?_)
        clear hK K
        (try simp only [Act.put, List.getElem_toArray, List.getElem_cons_succ, List.getElem_cons_zero, List.setIfInBounds_toArray, List.set_cons_zero, List.set_cons_succ])
        refine wpAnyF_take (i := 7) (oi := _) (v := _) rfl (by kernel_rfl) (by kernel_rfl) (by kernel_rfl) (by kernel_rfl) (fun _ _ _ h => h) (.inl ⟨by with_unfolding_all rfl, fun w h => exec_bin .eql 34 34 (.tmp 45) (.tmp 47) rfl (.agg da) (.agg da) (.bool true) rfl rfl (bk_guard _ _ _ _ _) (HEQ.out w)⟩) (by assumption) ?_
        (try simp only [Act.put, List.getElem_toArray, List.getElem_cons_succ, List.getElem_cons_zero, List.setIfInBounds_toArray, List.set_cons_zero, List.set_cons_succ])
        refine wpAnyF_take (i := 8) (oi := _) (v := ?_) rfl (by kernel_rfl) (by kernel_rfl) (by kernel_rfl) (by kernel_rfl) (fun _ _ _ h => h) (Or.inl ⟨by rfl, ?_⟩) (by assumption) ?_
        rotate_left 1
        · intro w hSw
          (try dsimp only at hSw)
          (first | (go_simp; done) | (go_simp; with_reducible rfl))
        (try simp only [Act.put, List.getElem_toArray, List.getElem_cons_succ, List.getElem_cons_zero, List.setIfInBounds_toArray, List.set_cons_zero, List.set_cons_succ])
        refine wpAnyF_take (i := 9) (oi := _) (v := ?_) rfl (by kernel_rfl) (by kernel_rfl) (by kernel_rfl) (by kernel_rfl) (fun _ _ _ h => h) (Or.inl ⟨by rfl, ?_⟩) (by assumption) ?_
        rotate_left 1
        · intro w hSw
          (try dsimp only at hSw)
          (first | (go_simp; done) | (go_simp; with_reducible rfl))
        (try simp only [Act.put, List.getElem_toArray, List.getElem_cons_succ, List.getElem_cons_zero, List.setIfInBounds_toArray, List.set_cons_zero, List.set_cons_succ])
        refine wpAnyF_take (i := 10) (oi := _) (v := ?_) rfl (by kernel_rfl) (by kernel_rfl) (by kernel_rfl) (by kernel_rfl) (fun _ _ _ h => h) (Or.inl ⟨by rfl, ?_⟩) (by assumption) ?_
        rotate_left 1
        · intro w hSw
          (try dsimp only at hSw)
          (first | (go_simp; done) | (go_simp; with_reducible rfl))
        (try simp only [Act.put, List.getElem_toArray, List.getElem_cons_succ, List.getElem_cons_zero, List.setIfInBounds_toArray, List.set_cons_zero, List.set_cons_succ])
        refine wpAnyF_take (i := 12) (oi := _) (v := ?_) rfl (by kernel_rfl) (by kernel_rfl) (by kernel_rfl) (by kernel_rfl) (fun _ _ _ h => h) (Or.inl ⟨by rfl, ?_⟩) (by assumption) ?_
        rotate_left 1
        · intro w hSw
          (try dsimp only at hSw)
          (first | (go_simp; done) | (go_simp; with_reducible rfl))
        (try simp only [Act.put, List.getElem_toArray, List.getElem_cons_succ, List.getElem_cons_zero, List.setIfInBounds_toArray, List.set_cons_zero, List.set_cons_succ])
        refine wpAnyF_take (i := 13) (oi := _) (v := ?_) rfl (by kernel_rfl) (by kernel_rfl) (by kernel_rfl) (by kernel_rfl) (fun _ _ _ h => h) (Or.inl ⟨by rfl, ?_⟩) (by assumption) ?_
        rotate_left 1
        · intro w hSw
          (try dsimp only at hSw)
          (first | (go_simp; done) | (go_simp; with_reducible rfl))
        (try simp only [Act.put, List.getElem_toArray, List.getElem_cons_succ, List.getElem_cons_zero, List.setIfInBounds_toArray, List.set_cons_zero, List.set_cons_succ])
        refine wpAnyF_ready (rs := [11]) (by kernel_rfl) (by simp) ?_
        refine AllReadyF.cons (o := _) rfl (fun K hK => ?_) AllReadyF.nil
        go_simp
        refine (tlen_any T b n D lb cap q F _ HTR8.out).mono ?_
        rintro e w10 ⟨rfl, rfl⟩
        refine hK.out _ _ (hHeld6) (fun hHeld11 => ?_)
        clear hK K
        (try simp only [Act.put, List.getElem_toArray, List.getElem_cons_succ, List.getElem_cons_zero, List.setIfInBounds_toArray, List.set_cons_zero, List.set_cons_succ])
        refine wpAnyF_take (i := 14) (oi := _) (v := ?_) rfl (by kernel_rfl) (by kernel_rfl) (by kernel_rfl) (by kernel_rfl) (fun _ _ _ h => h) (Or.inl ⟨by rfl, ?_⟩) (by assumption) ?_
        rotate_left 1
        · intro w hSw
          (try dsimp only at hSw)
          (first | (go_simp; done) | (go_simp; with_reducible rfl))
        (try simp only [Act.put, List.getElem_toArray, List.getElem_cons_succ, List.getElem_cons_zero, List.setIfInBounds_toArray, List.set_cons_zero, List.set_cons_succ])
        refine wpAnyF_take (i := 15) (oi := _) (v := ?_) rfl (by kernel_rfl) (by kernel_rfl) (by kernel_rfl) (by kernel_rfl) (fun _ _ _ h => h) (Or.inl ⟨by rfl, ?_⟩) (by assumption) ?_
        rotate_left 1
        · intro w hSw
          (try dsimp only at hSw)
          (first | (go_simp; done) | (go_simp; with_reducible rfl))
        (try simp only [Act.put, List.getElem_toArray, List.getElem_cons_succ, List.getElem_cons_zero, List.setIfInBounds_toArray, List.set_cons_zero, List.set_cons_succ])
        refine wpAnyF_take (i := 16) (oi := _) (v := ?_) rfl (by kernel_rfl) (by kernel_rfl) (by kernel_rfl) (by kernel_rfl) (fun _ _ _ h => h) (Or.inl ⟨by rfl, ?_⟩) (by assumption) ?_
        rotate_left 1
        · intro w hSw
          (try dsimp only at hSw)
          (first | (go_simp; done) | (go_simp; with_reducible rfl))
        (try simp only [Act.put, List.getElem_toArray, List.getElem_cons_succ, List.getElem_cons_zero, List.setIfInBounds_toArray, List.set_cons_zero, List.set_cons_succ])
        refine wpAnyF_take (i := 17) (oi := _) (v := ?_) rfl (by kernel_rfl) (by kernel_rfl) (by kernel_rfl) (by kernel_rfl) (fun _ _ _ h => h) (Or.inl ⟨by rfl, ?_⟩) (by assumption) ?_
        rotate_left 1
        · intro w hSw
          (try dsimp only at hSw)
          (first | (go_simp; done) | (go_simp; with_reducible rfl))
        (try simp only [Act.put, List.getElem_toArray, List.getElem_cons_succ, List.getElem_cons_zero, List.setIfInBounds_toArray, List.set_cons_zero, List.set_cons_succ])
        refine wpAnyF_take (i := 18) (oi := _) (v := ?_) rfl (by kernel_rfl) (by kernel_rfl) (by kernel_rfl) (by kernel_rfl) (fun _ _ _ h => h) (Or.inl ⟨by rfl, ?_⟩) (by assumption) ?_
        rotate_left 1
        · intro w hSw
          (try dsimp only at hSw)
          (first | (go_simp; done) | (go_simp; with_reducible rfl))
        (try simp only [Act.put, List.getElem_toArray, List.getElem_cons_succ, List.getElem_cons_zero, List.setIfInBounds_toArray, List.set_cons_zero, List.set_cons_succ])
        refine wpAnyF_take (i := 20) (oi := _) (v := _) rfl (by kernel_rfl) (by kernel_rfl) (by kernel_rfl) (by kernel_rfl) (fun _ _ _ h => h) (yields_rowP (by with_unfolding_all rfl) 33 (.tmp 7) rfl p7 0 rfl xk _ (fun W h j v hv => by rw [Nat.zero_add, blk_cell h j]; simpa using hv) Try.underlying33 rfl HIK.out) (by assumption) ?_
        (try simp only [Act.put, List.getElem_toArray, List.getElem_cons_succ, List.getElem_cons_zero, List.setIfInBounds_toArray, List.set_cons_zero, List.set_cons_succ])
        refine wpAnyF_ready (rs := [19]) (by kernel_rfl) (by simp) ?_
        refine AllReadyF.cons (o := _) rfl (fun K hK => ?_) AllReadyF.nil
        go_simp
        refine (tat_any T b n D lb cap k ls q F _ HTR8.out HF0.out hkb).mono ?_
        rintro e w11 ⟨rfl, hb11⟩
        rw [← HXK.out]
        have HB11 : Hid (Below w.heap.size w w11) := Lib.hid (HBW8.out.trans (hb11.mono HBW8.out.size))
        have HH11 := Lib.hid ((hb11.block _ (blk_lt hHeld11)).trans hHeld11)
        clear hb11
        refine hK.out _ _ (HH11.out) (fun hHeld19 => ?_)
        clear hK K
        (try simp only [Act.put, List.getElem_toArray, List.getElem_cons_succ, List.getElem_cons_zero, List.setIfInBounds_toArray, List.set_cons_zero, List.set_cons_succ])
        refine wpAnyF_take (i := 21) (oi := _) (v := _) rfl (by kernel_rfl) (by kernel_rfl) (by kernel_rfl) (by kernel_rfl) (fun _ _ _ h => h) (.inl ⟨by with_unfolding_all rfl, fun w h => exec_bin .eql 34 34 (.tmp 60) (.tmp 61) rfl (.agg xk) (.agg xk) (.bool true) rfl rfl (bk_guard _ _ _ _ _) (HEK.out w)⟩) (by assumption) ?_
        (try simp only [Act.put, List.getElem_toArray, List.getElem_cons_succ, List.getElem_cons_zero, List.setIfInBounds_toArray, List.set_cons_zero, List.set_cons_succ])
        refine wpAnyF_take (i := 22) (oi := _) (v := ?_) rfl (by kernel_rfl) (by kernel_rfl) (by kernel_rfl) (by kernel_rfl) (fun _ _ _ h => h) (Or.inl ⟨by rfl, ?_⟩) (by assumption) ?_
        rotate_left 1
        · intro w hSw
          (try dsimp only at hSw)
          (first | (go_simp; done) | (go_simp; with_reducible rfl))
        (try simp only [Act.put, List.getElem_toArray, List.getElem_cons_succ, List.getElem_cons_zero, List.setIfInBounds_toArray, List.set_cons_zero, List.set_cons_succ])
        refine wpAnyF_take (i := 23) (oi := _) (v := ?_) rfl (by kernel_rfl) (by kernel_rfl) (by kernel_rfl) (by kernel_rfl) (fun _ _ _ h => h) (Or.inl ⟨by rfl, ?_⟩) (by assumption) ?_
        rotate_left 1
        · intro w hSw
          (try dsimp only at hSw)
          (first | (go_simp; done) | (go_simp; with_reducible rfl))
        (try simp only [Act.put, List.getElem_toArray, List.getElem_cons_succ, List.getElem_cons_zero, List.setIfInBounds_toArray, List.set_cons_zero, List.set_cons_succ])
        refine wpAnyF_ready (rs := [24]) (by kernel_rfl) (by simp) ?_
        refine AllReadyF.cons (o := _) rfl (fun K hK => ?_) AllReadyF.nil
        go_simp
        refine (awake12_any _).mono ?_
        rintro e w12 ⟨rfl, hb12⟩
        have HB12 : Hid (Below w.heap.size w w12) := Lib.hid (HB11.out.trans (hb12.mono HB11.out.size))
        have HH12 := Lib.hid ((hb12.block _ (blk_lt hHeld19)).trans hHeld19)
        clear hb12
        refine hK.out _ _ (HH12.out) (fun hHeld24 => ?_)
        clear hK K
        (try simp only [Act.put, List.getElem_toArray, List.getElem_cons_succ, List.getElem_cons_zero, List.setIfInBounds_toArray, List.set_cons_zero, List.set_cons_succ])
        refine wpAnyF_take (i := 25) (oi := _) (v := ?_) rfl (by kernel_rfl) (by kernel_rfl) (by kernel_rfl) (by kernel_rfl) (fun _ _ _ h => h) (Or.inl ⟨by rfl, ?_⟩) (by assumption) ?_
        rotate_left 1
        · intro w hSw
          (try dsimp only at hSw)
          (first | (go_simp; done) | (go_simp; with_reducible rfl))
        (try simp only [Act.put, List.getElem_toArray, List.getElem_cons_succ, List.getElem_cons_zero, List.setIfInBounds_toArray, List.set_cons_zero, List.set_cons_succ])
        refine wpAnyF_take (i := 26) (oi := _) (v := ?_) rfl (by kernel_rfl) (by kernel_rfl) (by kernel_rfl) (by kernel_rfl) (fun _ _ _ h => h) (Or.inl ⟨by rfl, ?_⟩) (by assumption) ?_
        rotate_left 1
        · intro w hSw
          (try dsimp only at hSw)
          (first | (go_simp; done) | (go_simp; with_reducible rfl))
        (try simp only [Act.put, List.getElem_toArray, List.getElem_cons_succ, List.getElem_cons_zero, List.setIfInBounds_toArray, List.set_cons_zero, List.set_cons_succ])
        refine wpAnyF_done (by kernel_rfl) ?_ _
        clear hHeld hHeld4 hHeld6 hHeld11 hHeld19 hHeld24
        go_wp2_with fail
        go_ret
        exact ⟨rfl, HB12.out⟩
      · clear hdk
        go_upto_region 8 with (fail)
        rw [← HKZ.out, ← HV.out, ← HP7E.out]
        refine wp_region_F (S := (fun W : World => W.heap[p7]? = some (.cells xk 33 (0, 0)))) [] (by kernel_rfl) (HP7.out) (fun hHeld => ?_)
        refine wpAnyF_take (i := 0) (oi := _) (v := ?_) rfl (by kernel_rfl) (by kernel_rfl) (by kernel_rfl) (by kernel_rfl) (fun _ _ _ h => h) (Or.inl ⟨by rfl, ?_⟩) (by assumption) ?_
        rotate_left 1
        · intro w hSw
          (try dsimp only at hSw)
          (first | (go_simp; done) | (go_simp; with_reducible rfl))
        (try simp only [Act.put, List.getElem_toArray, List.getElem_cons_succ, List.getElem_cons_zero, List.setIfInBounds_toArray, List.set_cons_zero, List.set_cons_succ])
        refine wpAnyF_take (i := 1) (oi := _) (v := ?_) rfl (by kernel_rfl) (by kernel_rfl) (by kernel_rfl) (by kernel_rfl) (fun _ _ _ h => h) (Or.inl ⟨by rfl, ?_⟩) (by assumption) ?_
        rotate_left 1
        · intro w hSw
          (try dsimp only at hSw)
          (first | (go_simp; done) | (go_simp; with_reducible rfl))
        (try simp only [Act.put, List.getElem_toArray, List.getElem_cons_succ, List.getElem_cons_zero, List.setIfInBounds_toArray, List.set_cons_zero, List.set_cons_succ])
        refine wpAnyF_take (i := 2) (oi := _) (v := ?_) rfl (by kernel_rfl) (by kernel_rfl) (by kernel_rfl) (by kernel_rfl) (fun _ _ _ h => h) (Or.inl ⟨by rfl, ?_⟩) (by assumption) ?_
        rotate_left 1
        · intro w hSw
          (try dsimp only at hSw)
          (first | (go_simp; done) | (go_simp; with_reducible rfl))
        (try simp only [Act.put, List.getElem_toArray, List.getElem_cons_succ, List.getElem_cons_zero, List.setIfInBounds_toArray, List.set_cons_zero, List.set_cons_succ])
        refine wpAnyF_take (i := 3) (oi := _) (v := ?_) rfl (by kernel_rfl) (by kernel_rfl) (by kernel_rfl) (by kernel_rfl) (fun _ _ _ h => h) (Or.inl ⟨by rfl, ?_⟩) (by assumption) ?_
        rotate_left 1
        · intro w hSw
          (try dsimp only at hSw)
          (first | (go_simp; done) | (go_simp; with_reducible rfl))
        (try simp only [Act.put, List.getElem_toArray, List.getElem_cons_succ, List.getElem_cons_zero, List.setIfInBounds_toArray, List.set_cons_zero, List.set_cons_succ])
        refine wpAnyF_take (i := 5) (oi := _) (v := ?_) rfl (by kernel_rfl) (by kernel_rfl) (by kernel_rfl) (by kernel_rfl) (fun _ _ _ h => h) (Or.inl ⟨by rfl, ?_⟩) (by assumption) ?_
        rotate_left 1
        · intro w hSw
          (try dsimp only at hSw)
          (first | (go_simp; done) | (go_simp; with_reducible rfl))
        (try simp only [Act.put, List.getElem_toArray, List.getElem_cons_succ, List.getElem_cons_zero, List.setIfInBounds_toArray, List.set_cons_zero, List.set_cons_succ])
        refine wpAnyF_ready (rs := [4]) (by kernel_rfl) (by simp) ?_
        refine AllReadyF.cons (o := _) rfl (fun K hK => ?_) AllReadyF.nil
        go_simp
        refine (HROOT.out _ ((Below.refl _ _).drew)).mono ?_
        intro e w9 hsum
        have HT9 := Lib.hid hsum.2.1
        have he := hsum.1
        subst he
        rw [HFE.out, ← HDA.out]
        clear hsum
        have HTR9 := Lib.hid ((HTR.out.next (Below.refl _ _).drew).keep HT9.out HAPT.out)
        have HBW9 : Hid (Below w.heap.size w w9) := Lib.hid (HBW7.out.drew.trans (Turns.below HT9.out HBW7.out.size HS2.out))
        refine hK.out _ _ ((HT9.out.block _ (blk_lt HP7.out) HNP.out).trans HP7.out) (fun hHeld4 => ?_)
        clear hK K
        (try simp only [Act.put, List.getElem_toArray, List.getElem_cons_succ, List.getElem_cons_zero, List.setIfInBounds_toArray, List.set_cons_zero, List.set_cons_succ])
        refine wpAnyF_ready (rs := [6]) (by kernel_rfl) (by simp) ?_
        refine AllReadyF.cons (o := _) rfl (fun K hK => ?_) AllReadyF.nil
        go_simp
        refine (HRR.out _ HBW9.out).mono ?_
        rintro e w8 ⟨rfl, hb8⟩
        have HTR8 := Lib.hid (HTR9.out.next hb8)
        have HBW8 : Hid (Below w.heap.size w w8) := Lib.hid (HBW9.out.trans (hb8.mono HBW9.out.size))
        have HH8 := Lib.hid ((hb8.block _ (blk_lt hHeld4)).trans hHeld4)
        rw [← HDA.out]
        clear hb8
        refine hK.out _ _ (HH8.out) (fun hHeld6 => ?_)
        clear hK K
        (try simp only [Act.put, List.getElem_toArray, List.getElem_cons_succ, List.getElem_cons_zero, List.setIfInBounds_toArray, List.set_cons_zero, List.set_cons_succ])
        refine wpAnyF_take (i := 7) (oi := _) (v := _) rfl (by kernel_rfl) (by kernel_rfl) (by kernel_rfl) (by kernel_rfl) (fun _ _ _ h => h) (.inl ⟨by with_unfolding_all rfl, fun w h => exec_bin .eql 34 34 (.tmp 45) (.tmp 47) rfl (.agg da) (.agg da) (.bool true) rfl rfl (bk_guard _ _ _ _ _) (HEQ.out w)⟩) (by assumption) ?_
        (try simp only [Act.put, List.getElem_toArray, List.getElem_cons_succ, List.getElem_cons_zero, List.setIfInBounds_toArray, List.set_cons_zero, List.set_cons_succ])
        refine wpAnyF_take (i := 8) (oi := _) (v := ?_) rfl (by kernel_rfl) (by kernel_rfl) (by kernel_rfl) (by kernel_rfl) (fun _ _ _ h => h) (Or.inl ⟨by rfl, ?_⟩) (by assumption) ?_
        rotate_left 1
        · intro w hSw
          (try dsimp only at hSw)
          (first | (go_simp; done) | (go_simp; with_reducible rfl))
        (try simp only [Act.put, List.getElem_toArray, List.getElem_cons_succ, List.getElem_cons_zero, List.setIfInBounds_toArray, List.set_cons_zero, List.set_cons_succ])
        refine wpAnyF_take (i := 9) (oi := _) (v := ?_) rfl (by kernel_rfl) (by kernel_rfl) (by kernel_rfl) (by kernel_rfl) (fun _ _ _ h => h) (Or.inl ⟨by rfl, ?_⟩) (by assumption) ?_
        rotate_left 1
        · intro w hSw
          (try dsimp only at hSw)
          (first | (go_simp; done) | (go_simp; with_reducible rfl))
        (try simp only [Act.put, List.getElem_toArray, List.getElem_cons_succ, List.getElem_cons_zero, List.setIfInBounds_toArray, List.set_cons_zero, List.set_cons_succ])
        refine wpAnyF_take (i := 10) (oi := _) (v := ?_) rfl (by kernel_rfl) (by kernel_rfl) (by kernel_rfl) (by kernel_rfl) (fun _ _ _ h => h) (Or.inl ⟨by rfl, ?_⟩) (by assumption) ?_
        rotate_left 1
        · intro w hSw
          (try dsimp only at hSw)
          (first | (go_simp; done) | (go_simp; with_reducible rfl))
        (try simp only [Act.put, List.getElem_toArray, List.getElem_cons_succ, List.getElem_cons_zero, List.setIfInBounds_toArray, List.set_cons_zero, List.set_cons_succ])
        refine wpAnyF_take (i := 12) (oi := _) (v := ?_) rfl (by kernel_rfl) (by kernel_rfl) (by kernel_rfl) (by kernel_rfl) (fun _ _ _ h => h) (Or.inl ⟨by rfl, ?_⟩) (by assumption) ?_
        rotate_left 1
        · intro w hSw
          (try dsimp only at hSw)
          (first | (go_simp; done) | (go_simp; with_reducible rfl))
        (try simp only [Act.put, List.getElem_toArray, List.getElem_cons_succ, List.getElem_cons_zero, List.setIfInBounds_toArray, List.set_cons_zero, List.set_cons_succ])
        refine wpAnyF_take (i := 13) (oi := _) (v := ?_) rfl (by kernel_rfl) (by kernel_rfl) (by kernel_rfl) (by kernel_rfl) (fun _ _ _ h => h) (Or.inl ⟨by rfl, ?_⟩) (by assumption) ?_
        rotate_left 1
        · intro w hSw
          (try dsimp only at hSw)
          (first | (go_simp; done) | (go_simp; with_reducible rfl))
        (try simp only [Act.put, List.getElem_toArray, List.getElem_cons_succ, List.getElem_cons_zero, List.setIfInBounds_toArray, List.set_cons_zero, List.set_cons_succ])
        refine wpAnyF_ready (rs := [11]) (by kernel_rfl) (by simp) ?_
        refine AllReadyF.cons (o := _) rfl (fun K hK => ?_) AllReadyF.nil
        go_simp
        refine (tlen_any T b n D lb cap q F _ HTR8.out).mono ?_
        rintro e w10 ⟨rfl, rfl⟩
        refine hK.out _ _ (hHeld6) (fun hHeld11 => ?_)
        clear hK K
        (try simp only [Act.put, List.getElem_toArray, List.getElem_cons_succ, List.getElem_cons_zero, List.setIfInBounds_toArray, List.set_cons_zero, List.set_cons_succ])
        refine wpAnyF_take (i := 14) (oi := _) (v := ?_) rfl (by kernel_rfl) (by kernel_rfl) (by kernel_rfl) (by kernel_rfl) (fun _ _ _ h => h) (Or.inl ⟨by rfl, ?_⟩) (by assumption) ?_
        rotate_left 1
        · intro w hSw
          (try dsimp only at hSw)
          (first | (go_simp; done) | (go_simp; with_reducible rfl))
        (try simp only [Act.put, List.getElem_toArray, List.getElem_cons_succ, List.getElem_cons_zero, List.setIfInBounds_toArray, List.set_cons_zero, List.set_cons_succ])
        refine wpAnyF_take (i := 15) (oi := _) (v := ?_) rfl (by kernel_rfl) (by kernel_rfl) (by kernel_rfl) (by kernel_rfl) (fun _ _ _ h => h) (Or.inl ⟨by rfl, ?_⟩) (by assumption) ?_
        rotate_left 1
        · intro w hSw
          (try dsimp only at hSw)
          (first | (go_simp; done) | (go_simp; with_reducible rfl))
        (try simp only [Act.put, List.getElem_toArray, List.getElem_cons_succ, List.getElem_cons_zero, List.setIfInBounds_toArray, List.set_cons_zero, List.set_cons_succ])
        refine wpAnyF_take (i := 16) (oi := _) (v := ?_) rfl (by kernel_rfl) (by kernel_rfl) (by kernel_rfl) (by kernel_rfl) (fun _ _ _ h => h) (Or.inl ⟨by rfl, ?_⟩) (by assumption) ?_
        rotate_left 1
        · intro w hSw
          (try dsimp only at hSw)
          (first | (go_simp; done) | (go_simp; with_reducible rfl))
        (try simp only [Act.put, List.getElem_toArray, List.getElem_cons_succ, List.getElem_cons_zero, List.setIfInBounds_toArray, List.set_cons_zero, List.set_cons_succ])
        refine wpAnyF_take (i := 17) (oi := _) (v := ?_) rfl (by kernel_rfl) (by kernel_rfl) (by kernel_rfl) (by kernel_rfl) (fun _ _ _ h => h) (Or.inl ⟨by rfl, ?_⟩) (by assumption) ?_
        rotate_left 1
        · intro w hSw
          (try dsimp only at hSw)
          (first | (go_simp; done) | (go_simp; with_reducible rfl))
        (try simp only [Act.put, List.getElem_toArray, List.getElem_cons_succ, List.getElem_cons_zero, List.setIfInBounds_toArray, List.set_cons_zero, List.set_cons_succ])
        refine wpAnyF_take (i := 18) (oi := _) (v := ?_) rfl (by kernel_rfl) (by kernel_rfl) (by kernel_rfl) (by kernel_rfl) (fun _ _ _ h => h) (Or.inl ⟨by rfl, ?_⟩) (by assumption) ?_
        rotate_left 1
        · intro w hSw
          (try dsimp only at hSw)
          (first | (go_simp; done) | (go_simp; with_reducible rfl))
        (try simp only [Act.put, List.getElem_toArray, List.getElem_cons_succ, List.getElem_cons_zero, List.setIfInBounds_toArray, List.set_cons_zero, List.set_cons_succ])
        refine wpAnyF_take (i := 20) (oi := _) (v := _) rfl (by kernel_rfl) (by kernel_rfl) (by kernel_rfl) (by kernel_rfl) (fun _ _ _ h => h) (yields_rowP (by with_unfolding_all rfl) 33 (.tmp 7) rfl p7 0 rfl xk _ (fun W h j v hv => by rw [Nat.zero_add, blk_cell h j]; simpa using hv) Try.underlying33 rfl HIK.out) (by assumption) ?_
        (try simp only [Act.put, List.getElem_toArray, List.getElem_cons_succ, List.getElem_cons_zero, List.setIfInBounds_toArray, List.set_cons_zero, List.set_cons_succ])
        refine wpAnyF_ready (rs := [19]) (by kernel_rfl) (by simp) ?_
        refine AllReadyF.cons (o := _) rfl (fun K hK => ?_) AllReadyF.nil
        go_simp
        refine (tat_any T b n D lb cap k ls q F _ HTR8.out HF0.out hkb).mono ?_
        rintro e w11 ⟨rfl, hb11⟩
        rw [← HXK.out]
        have HB11 : Hid (Below w.heap.size w w11) := Lib.hid (HBW8.out.trans (hb11.mono HBW8.out.size))
        have HH11 := Lib.hid ((hb11.block _ (blk_lt hHeld11)).trans hHeld11)
        clear hb11
        refine hK.out _ _ (HH11.out) (fun hHeld19 => ?_)
        clear hK K
        (try simp only [Act.put, List.getElem_toArray, List.getElem_cons_succ, List.getElem_cons_zero, List.setIfInBounds_toArray, List.set_cons_zero, List.set_cons_succ])
        refine wpAnyF_take (i := 21) (oi := _) (v := _) rfl (by kernel_rfl) (by kernel_rfl) (by kernel_rfl) (by kernel_rfl) (fun _ _ _ h => h) (.inl ⟨by with_unfolding_all rfl, fun w h => exec_bin .eql 34 34 (.tmp 60) (.tmp 61) rfl (.agg xk) (.agg xk) (.bool true) rfl rfl (bk_guard _ _ _ _ _) (HEK.out w)⟩) (by assumption) ?_
        (try simp only [Act.put, List.getElem_toArray, List.getElem_cons_succ, List.getElem_cons_zero, List.setIfInBounds_toArray, List.set_cons_zero, List.set_cons_succ])
        refine wpAnyF_take (i := 22) (oi := _) (v := ?_) rfl (by kernel_rfl) (by kernel_rfl) (by kernel_rfl) (by kernel_rfl) (fun _ _ _ h => h) (Or.inl ⟨by rfl, ?_⟩) (by assumption) ?_
        rotate_left 1
        · intro w hSw
          (try dsimp only at hSw)
          (first | (go_simp; done) | (go_simp; with_reducible rfl))
        (try simp only [Act.put, List.getElem_toArray, List.getElem_cons_succ, List.getElem_cons_zero, List.setIfInBounds_toArray, List.set_cons_zero, List.set_cons_succ])
        refine wpAnyF_take (i := 23) (oi := _) (v := ?_) rfl (by kernel_rfl) (by kernel_rfl) (by kernel_rfl) (by kernel_rfl) (fun _ _ _ h => h) (Or.inl ⟨by rfl, ?_⟩) (by assumption) ?_
        rotate_left 1
        · intro w hSw
          (try dsimp only at hSw)
          (first | (go_simp; done) | (go_simp; with_reducible rfl))
        (try simp only [Act.put, List.getElem_toArray, List.getElem_cons_succ, List.getElem_cons_zero, List.setIfInBounds_toArray, List.set_cons_zero, List.set_cons_succ])
        refine wpAnyF_ready (rs := [24]) (by kernel_rfl) (by simp) ?_
        refine AllReadyF.cons (o := _) rfl (fun K hK => ?_) AllReadyF.nil
        go_simp
        refine (awake12_any _).mono ?_
        rintro e w12 ⟨rfl, hb12⟩
        have HB12 : Hid (Below w.heap.size w w12) := Lib.hid (HB11.out.trans (hb12.mono HB11.out.size))
        have HH12 := Lib.hid ((hb12.block _ (blk_lt hHeld19)).trans hHeld19)
        clear hb12
        refine hK.out _ _ (HH12.out) (fun hHeld24 => ?_)
        clear hK K
        (try simp only [Act.put, List.getElem_toArray, List.getElem_cons_succ, List.getElem_cons_zero, List.setIfInBounds_toArray, List.set_cons_zero, List.set_cons_succ])
        refine wpAnyF_take (i := 25) (oi := _) (v := ?_) rfl (by kernel_rfl) (by kernel_rfl) (by kernel_rfl) (by kernel_rfl) (fun _ _ _ h => h) (Or.inl ⟨by rfl, ?_⟩) (by assumption) ?_
        rotate_left 1
        · intro w hSw
          (try dsimp only at hSw)
          (first | (go_simp; done) | (go_simp; with_reducible rfl))
        (try simp only [Act.put, List.getElem_toArray, List.getElem_cons_succ, List.getElem_cons_zero, List.setIfInBounds_toArray, List.set_cons_zero, List.set_cons_succ])
        refine wpAnyF_take (i := 26) (oi := _) (v := ?_) rfl (by kernel_rfl) (by kernel_rfl) (by kernel_rfl) (by kernel_rfl) (fun _ _ _ h => h) (Or.inl ⟨by rfl, ?_⟩) (by assumption) ?_
        rotate_left 1
        · intro w hSw
          (try dsimp only at hSw)
          (first | (go_simp; done) | (go_simp; with_reducible rfl))
        (try simp only [Act.put, List.getElem_toArray, List.getElem_cons_succ, List.getElem_cons_zero, List.setIfInBounds_toArray, List.set_cons_zero, List.set_cons_succ])
        refine wpAnyF_done (by kernel_rfl) ?_ _
        clear hHeld hHeld4 hHeld6 hHeld11 hHeld19 hHeld24
        go_wp2_with fail
        go_ret
        exact ⟨rfl, HB12.out⟩
theorem treeRoot_any (n c : Nat) (A : Option Addr) (k : Int) (w : World) (h : (∃ ls, DgS w A n ls) ∧ n ≤ c ∧ c ≤ 9223372036854775807) (hkb : k ≤ 9223372036854775807) :
    Calls Try.prog 3 #[.slice A n c, .int .i64 k] w fun e w' => e = .returned (.bool true) ∧ Below w.heap.size w w' := by
  obtain ⟨⟨ls, hds⟩, hc, hc63⟩ := h
  by_cases hn : n ≤ 20
  · exact treeRoot_small n n c A A ls k w hds hn hc hkb (few_small n c A w hn)
  · obtain ⟨b, o, rfl, hb, hr⟩ := hds.1 (by omega)
    exact treeRoot_small n 20 c _ _ ls k w ⟨fun _ => ⟨b, o, rfl, hb, fun j hj => hr j (by omega)⟩, hds.2⟩ (Nat.le_refl _) (by omega) hkb (few_big n c b o w (by omega) hc hc63)
end
end Go.Proofs.Ytanpdpiohmjjdaa
