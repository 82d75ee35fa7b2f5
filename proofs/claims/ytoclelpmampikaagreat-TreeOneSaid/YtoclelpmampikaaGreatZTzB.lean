/-
  Joined: TwT, TwU, TwW, TwX, TwD2, TwP, TwQ, TpA, TpB, TnA, TyJ, TzA, TzB.
-/
import Derived.Test.YtoclelpmampikaaGreatTwZ5
import Derived.WalkKit
import Derived.ProofKit
import Derived.OpenShut
import Derived.Deep.Slices
import Derived.Deep.Fields
import Derived.ChangeSame
import Derived.Lib.Tables
import Derived.Test.YtoclelpmampikaaGreatTwZ3
namespace Go.Proofs.YtoclelpmampikaaGreat
set_option maxRecDepth 100000
section
open Go.RowKit Go
set_option linter.unusedVariables false
set_option linter.unusedSimpArgs false
theorem zero32_cells : dA zero32L = zeros 32 := by kernel_rfl
set_option maxHeartbeats 1000000 in
set_option maxRecDepth 100000 in
theorem tnode_out (T b n D lb cap : Nat) (k : Int) (q : Nat → Nat) (F : Nat → Nat → List Nat) (w : World) (h : TrB w T b n D lb cap q F) (hk : k < 0 ∨ (2 : Int) ^ D ≤ k) (hkb : k ≤ 9223372036854775807) :
    Calls Tryz.prog 24 #[.pointer (some ⟨T, 0, none⟩), .int .i64 0, .int .i64 k] w fun e w' => e = .returned (.agg (zeros 32)) ∧ Below w.heap.size w w' := by
  have hz := zero_dig
  have hb1 : Below w.heap.size w (w.alloc (.cells (zeros 32) DgT)) := (Below.refl _ _).alloc (Nat.le_refl _) _
  have h1 := h.next hb1
  have k2 := h1.c2
  have kr := h1.row 0 (Nat.zero_le _)
  rw [Nat.sub_zero] at kr
  have HN := Lib.hid (tnone_any T b n D lb cap q F _ h1)
  have HDP := Lib.hid (tdepth_any T b n D lb cap q F _ h1)
  have hD := h.D5
  have hN : ∃ N : Nat, N = 2 ^ D := ⟨_, rfl⟩
  obtain ⟨N, hN⟩ := hN
  have hNi : ((2 : Int) ^ D) = (N : Int) := by rw [hN]; push_cast; rfl
  rw [hNi] at hk
  rw [← hN] at kr
  have HI := Lib.hid (info_dig (cs := zeros 32) (by simp [zeros]))
  have HO : Hid ((zeros 32).all (·.oneCell') = true) := Lib.hid (by kernel_rfl)
  have HX := Lib.hid (heap_alloc_new w (.cells (zeros 32) DgT))
  have HFX := Lib.hid (setRow_heap _ _ _ (zeros 32) _ _ (heap_alloc_new w (.cells (zeros 32) DgT)))
  have HFB := Lib.hid (below_setRow (g := w.heap.size) hb1 (Nat.le_refl _) (zeros 32))
  have a2 : decide ((D : Int) < 0) = false := decide_eq_false (by omega)
  clear h h1 hb1 hN hNi
  rcases hk with hk | hk
  · have a3 : decide (k < 0) = true := decide_eq_true hk
    go_enter Tryz.func24, Tryz.ntmps24
    go_wp2_with fail
    refine HN.out.mono ?_
    rintro e w' ⟨rfl, rfl⟩
    go_wp2_with fail
    refine HDP.out.mono ?_
    rintro e w' ⟨rfl, rfl⟩
    go_wp2_with (with_reducible refine wpList_store_row rfl DgT (.tmp 6) (.tmp 35) rfl _ _ rfl rfl DgT _ HX.out HI.out rfl HO.out ?_)
    exact bodyPost_ret (v := .agg (zeros 32)) (results_cell_row rfl _ _ _ DgT _ (0, 0) _ rfl HFX.out Tryz.underlying34 rfl HI.out) rfl ⟨rfl, HFB.out⟩
  · have a3 : decide (k < 0) = false := decide_eq_false (by omega)
    have a4 : decide ((N : Int) ≤ k) = true := decide_eq_true hk
    go_enter Tryz.func24, Tryz.ntmps24
    go_wp2_with fail
    refine HN.out.mono ?_
    rintro e w' ⟨rfl, rfl⟩
    go_wp2_with fail
    refine HDP.out.mono ?_
    rintro e w' ⟨rfl, rfl⟩
    go_wp2_with (with_reducible refine wpList_store_row rfl DgT (.tmp 6) (.tmp 35) rfl _ _ rfl rfl DgT _ HX.out HI.out rfl HO.out ?_)
    exact bodyPost_ret (v := .agg (zeros 32)) (results_cell_row rfl _ _ _ DgT _ (0, 0) _ rfl HFX.out Tryz.underlying34 rfl HI.out) rfl ⟨rfl, HFB.out⟩
/-- leaf k of n, or noughts -/
def leafK (n : Nat) (ls : Nat → List Nat) (k : Int) : List Nat := if 0 ≤ k ∧ k < (n : Int) then ls k.toNat else zero32L
theorem tat_any (T b n D lb cap : Nat) (k : Int) (ls : Nat → List Nat) (q : Nat → Nat) (F : Nat → Nat → List Nat) (w : World) (h : TrB w T b n D lb cap q F) (hf : ∀ i, i < 2 ^ D → F 0 i = mixX n ls i) (hkb : k ≤ 9223372036854775807) :
    Calls Tryz.prog 11 #[.pointer (some ⟨T, 0, none⟩), .int .i64 k] w fun e w' => e = .returned (.agg (dA (leafK n ls k))) ∧ Below w.heap.size w w' := by
  have hz := zero_dig
  obtain ⟨W0, hW0⟩ : ∃ W0, W0 = w.alloc (.cells (zeros 32) DgT) := ⟨_, rfl⟩
  have hb1 : Below w.heap.size w W0 := by rw [hW0]; exact (Below.refl _ _).alloc (Nat.le_refl _) _
  have h1 := h.next hb1
  have key : Calls Tryz.prog 24 #[.pointer (some ⟨T, 0, none⟩), .int .i64 0, .int .i64 k] W0 fun e w' => e = .returned (.agg (dA (leafK n ls k))) ∧ Below W0.heap.size W0 w' := by
    by_cases hk : k < 0 ∨ (2 : Int) ^ D ≤ k
    · refine (tnode_out T b n D lb cap k q F W0 h1 hk hkb).mono ?_
      rintro e w' ⟨he, hb⟩
      have e1 : leafK n ls k = zero32L := by
        unfold leafK
        rw [if_neg]
        intro c
        have hn := h.n1.2
        have hn2 : (n : Int) ≤ (2 : Int) ^ D := by exact_mod_cast hn
        omega
      rw [e1, zero32_cells]
      exact ⟨he, hb⟩
    · obtain ⟨i, rfl⟩ : ∃ i : Nat, k = (i : Int) := ⟨k.toNat, by omega⟩
      have hi : i < 2 ^ D := by
        have : (i : Int) < (2 : Int) ^ D := by omega
        exact_mod_cast this
      refine (tnode_in T b n D lb cap 0 i q F W0 h1 (Nat.zero_le _) (by rw [Nat.sub_zero]; exact hi)).mono ?_
      rintro e w' ⟨he, hb⟩
      rw [hf i hi] at he
      have e1 : leafK n ls (i : Int) = mixX n ls i := by
        unfold leafK mixX
        by_cases c : i < n
        · rw [if_pos c, if_pos ⟨by omega, by omega⟩, Int.toNat_natCast]
        · rw [if_neg c, if_neg (fun x => by omega)]
      rw [e1]
      exact ⟨he, hb⟩
  have KEY := Lib.hid key
  have HX : Hid (W0.heap[w.heap.size]? = some (.cells (zeros 32) DgT (0, 0))) := Lib.hid (by rw [hW0]; exact heap_alloc_new w _)
  have HB1 := Lib.hid hb1
  obtain ⟨xd, hxd⟩ : ∃ z, z = dA (leafK n ls k) := ⟨_, rfl⟩
  have hx2 : xd.size = 32 := by rw [hxd, rowV_size]
  have HI := Lib.hid (info_dig hx2)
  have HO : Hid (xd.all (·.oneCell') = true) := Lib.hid (by rw [hxd]; exact dA_one _)
  have HZ : Hid ((zeros 32).size = xd.size) := Lib.hid (by rw [hx2]; simp [zeros])
  have HW0 := Lib.hid hW0
  rw [← hxd] at KEY ⊢
  clear h h1 hb1 key hW0 hxd hx2 hf
  go_enter Tryz.func11, Tryz.ntmps11
  go_wp2_with fail
  rw [← HW0.out]
  refine KEY.out.mono ?_
  rintro e w3 ⟨rfl, hb4⟩
  have HX4 : Hid (w3.heap[w.heap.size]? = some (.cells (zeros 32) DgT (0, 0))) := Lib.hid ((hb4.block _ (blk_lt HX.out)).trans HX.out)
  have HFX := Lib.hid (setRow_heap _ _ _ xd _ _ HX4.out)
  have HFB := Lib.hid (below_setRow (g := w.heap.size) (HB1.out.trans (hb4.mono HB1.out.size)) (Nat.le_refl _) xd)
  clear hb4
  go_wp2_with (with_reducible refine wpList_store_row rfl DgT (.tmp 4) (.tmp 7) rfl _ _ rfl rfl DgT _ HX4.out HI.out HZ.out HO.out ?_)
  exact bodyPost_ret (v := .agg xd) (results_cell_row rfl _ _ _ DgT _ (0, 0) _ rfl HFX.out Tryz.underlying34 rfl HI.out) rfl ⟨rfl, HFB.out⟩
end
section
open Go.RowKit Go
set_option linter.unusedVariables false
set_option linter.unusedSimpArgs false
theorem fill_one (xd : Array Value) (hx : xd.size = 32) : Instr.fill (fun i => some (i * 32, 32)) ((Array.range (1 * 32)).map ((Value.agg (zeros 32)).cells[· % (Value.agg (zeros 32)).cells.size]!)) [(0, .agg xd)] = some xd := by
  have h := Go.Great.fill_whole (s := 32) (by omega) [.agg xd] ((Array.range (1 * 32)).map ((Value.agg (zeros 32)).cells[· % (Value.agg (zeros 32)).cells.size]!)) (fun v hv => by
    have e : v = .agg xd := by simpa using hv
    rw [e]; exact hx) (by simp)
  have e1 : (([Value.agg xd].flatMap fun v => v.cells.toList).toArray) = xd := by simp [Value.cells]
  rw [e1] at h
  exact h
theorem wpList_build1 {ops : Array Oper} {rest : List Oper} {o : Oper} {a : Act} {w : World} {Q : Exit → Act → World → Prop} (hg : o.guard = none) (x : Operand) (ho : o.op = .buildSlice 30 1 #[(0, x)]) (xd : Array Value) (hx2 : xd.size = 32) (hx : a.eval x = .agg xd)
    (h : wpList Tryz.prog ops Q rest (a.put o.dst (.slice (some ⟨w.heap.size, 0, none⟩) 1 1)) (w.alloc (.cells xd DgT))) : wpList Tryz.prog ops Q (o :: rest) a w := by
  obtain ⟨ie, h0, h1, h2, h3⟩ := info_parts dg_info
  refine wpList_buildSlice hg 30 DgT 1 #[(0, x)] ho xd ie _ Tryz.underlying30 h0 h1 (by rw [h2]; omega) (by rw [h2]; omega) ?_ h
  rw [h2]
  simp only [List.map_toArray, List.map_cons, List.map_nil, hx]
  exact fill_one xd hx2
def flatD (ls : Nat → List Nat) (k : Nat) : List Value := (List.range k).flatMap fun i => (dA (ls i)).toList
theorem flatD_snoc (ls : Nat → List Nat) (k : Nat) : flatD ls (k + 1) = flatD ls k ++ (dA (ls k)).toList := by
  unfold flatD
  rw [List.range_succ, List.flatMap_append]
  simp
theorem flatD_len (ls : Nat → List Nat) : ∀ k, (flatD ls k).length = k * 32
  | 0 => by simp [flatD]
  | k + 1 => by rw [flatD_snoc, List.length_append, flatD_len ls k, Array.length_toList, rowV_size]; omega
theorem flatD_at (ls : Nat → List Nat) (i j : Nat) (hj : j < 32) : ∀ n, i < n → (flatD ls n)[i * 32 + j]? = (dA (ls i)).toList[j]?
  | 0, h => by omega
  | n + 1, h => by
    rw [flatD_snoc]
    by_cases e : i = n
    · subst e
      rw [List.getElem?_append_right (by rw [flatD_len]; omega), flatD_len, show i * 32 + j - i * 32 = j by omega]
    · rw [List.getElem?_append_left (by rw [flatD_len]; omega)]
      exact flatD_at ls i j hj n (by omega)
theorem wp_appD {ops : Array Oper} {rest : List Oper} {o : Oper} {a : Act} {Q : Exit → Act → World → Prop} (W : World) (hgd : o.guard = none) (s x : Operand)
    (ho : o.op = .call { callee := .builtin .append, args := #[s, x], argTypes := #[30, 30] })
    (B : Nat) (v : Value) (n : Nat) (xs : List Value) (xd : Array Value) (hx32 : xd.size = 32) (hone : xd.all (·.oneCell') = true) (hs : a.eval s = v) (hown : W.ownsRow B DgT 32 v n xs)
    (hx : a.eval x = .slice (some ⟨W.heap.size, 0, none⟩) 1 1) (hn : n < 1000) (hB : B ≤ W.heap.size)
    (h : ∀ v' w', w'.ownsRow B DgT 32 v' (n + 1) (xs ++ xd.toList) → Below B W w' → wpList Tryz.prog ops Q rest (a.put o.dst v') w') :
    wpList Tryz.prog ops Q (o :: rest) a (W.alloc (.cells xd DgT)) := by
  obtain ⟨i0, hi, hz0, hz1, hz2⟩ := info_parts dg_info
  have hnb := heap_alloc_new W (.cells xd DgT)
  refine wpList_append_own _ hgd s x 30 ho B DgT i0 (.agg (zeros 32)) 32 32 Tryz.underlying30 hi hz0 hz1 hz2 (by simp [Value.cells, zeros]) (by decide) v n xs hs (World.ownsRow.alloc hown _) ⟨W.heap.size, 0, none⟩ 1 1
    xd.toList hx (by rw [Array.length_toList]; omega) ?_ ?_ (by unfold maxLen; omega) (by omega) (by simp; omega) ?_
  · intro j u hj
    have e : (⟨W.heap.size, 0, none⟩ : Addr).add j = ⟨W.heap.size, j, none⟩ := by unfold Addr.add; split <;> simp_all
    rw [e, blk_cell hnb j]
    simpa using hj
  · intro u hu
    exact (Array.all_eq_true_iff_forall_mem.1 hone) u (by simpa using hu)
  · intro v' w1 hown' hg _
    exact h v' w1 hown' (((Below.refl B W).alloc hB _).grown hg (by simp; omega) (fun k hk => (World.ownsRow.lt hown k hk).1))
def DigTo (w : World) (n : Nat) (ls : Nat → List Nat) (e : Ending) (w' : World) : Prop := ∃ A c, e = .returned (.slice A n c) ∧ n ≤ c ∧ DgS w' A n ls ∧ Below w.heap.size w w'
theorem tdig_end {w W : World} {n : Nat} {ls : Nat → List Nat} {v : Value} (h : W.ownsRow w.heap.size DgT 32 v n (flatD ls n)) (hb : Below w.heap.size w W) (hd : ∀ k, IsDig (ls k)) : DigTo w n ls (.returned v) W := by
  by_cases hn : 0 < n
  · obtain ⟨g, cap, hv, hg, hgl, hc, hm, hx⟩ := own_at h hn
    refine ⟨_, cap, by rw [hv], hc, ⟨fun _ => ⟨g, 0, rfl, hgl, fun k hk j u hu => ?_⟩, hd⟩, hb⟩
    have hj : j < 32 := by have := (List.getElem?_eq_some_iff.1 hu).1; simpa [rowV_size] using this
    rw [show 0 + k * 32 + j = k * 32 + j by omega]
    exact hx _ _ ((flatD_at ls k j hj n hk).trans hu)
  · obtain rfl : n = 0 := by omega
    obtain ⟨h1, h2⟩ := h
    rcases h2 with ⟨h2, _⟩ | ⟨g, cap, cur, hv, hbg, hh, hnc, hm, _⟩
    · exact ⟨none, 0, by rw [h2], Nat.le_refl _, ⟨fun c => by omega, hd⟩, hb⟩
    · exact ⟨_, cap, by rw [hv], Nat.zero_le _, ⟨fun c => by omega, hd⟩, hb⟩
set_option maxHeartbeats 2000000 in
set_option maxRecDepth 100000 in
theorem digests_any (n c : Nat) (A : Option Addr) (ls : Nat → List Nat) (w : World) (h : DgS w A n ls) (hn : n ≤ 20) :
    Calls Tryz.prog 7 #[.slice A n c] w (DigTo w n ls) := by
  have hz := zero32
  have HH := Lib.hid h
  clear h
  go_enter Tryz.func7, Tryz.ntmps7
  go_wp2_with fail
  go_loopg [3, 8] n (fun gk v iv W => ∃ k : Nat, iv = .int .i64 (k : Int) ∧ k + gk = n ∧ W.ownsRow w.heap.size DgT 32 v k (flatD ls k) ∧ Below w.heap.size w W)
  case atStart => exact ⟨0, rfl, by omega, World.ownsRow_nil _ _ _ _, Below.refl _ _⟩
  case round =>
    obtain ⟨k, rfl, hk, hown, hb⟩ := hrel
    have HOW := Lib.hid hown
    have HB := Lib.hid hb
    clear hown hb
    by_cases hlt : k < n
    · obtain ⟨b, o, rfl, hbl, hrg⟩ := HH.out.1 (by omega)
      obtain ⟨xd, hxd⟩ : ∃ z, z = dA (ls k) := ⟨_, rfl⟩
      have hx2 : xd.size = 32 := by rw [hxd, rowV_size]
      have HI := Lib.hid (info_d32 hx2)
      have HIL : Hid ((Tryz.prog.info? 33).map (·.size) = some xd.toList.length) := Lib.hid (by rw [Array.length_toList]; exact info_d32 hx2)
      have hone : xd.all (·.oneCell') = true := by rw [hxd]; exact dA_one _
      have HO := Lib.hid hone
      have HX2 := Lib.hid hx2
      have HZ : Hid ((zeros 32).size = xd.size) := Lib.hid (by rw [hx2]; simp [zeros])
      have HR : Hid (wr.rangeAt b (o + k * 32) xd.toList) := Lib.hid (by rw [hxd]; exact range_of (HB.out.block b hbl) (hrg k hlt))
      have hxa : xd.toList.toArray = xd := by simp
      have ho8 := heap_alloc_new wr (.cells (zeros 32) 33)
      have HO8 := Lib.hid ho8
      obtain ⟨V8, hV8⟩ : ∃ V8, V8 = (wr.alloc (.cells (zeros 32) 33)).setRow wr.heap.size xd := ⟨_, rfl⟩
      have hb8 : Below wr.heap.size wr V8 := by rw [hV8]; exact below_setRow (g := wr.heap.size) ((Below.refl _ _).alloc (Nat.le_refl _) _) (Nat.le_refl _) xd
      have HP8 : Hid (V8.heap[wr.heap.size]? = some (.cells xd 33 (0, 0))) := Lib.hid (by rw [hV8]; exact setRow_heap _ _ _ xd _ _ ho8)
      have hown8 : V8.ownsRow w.heap.size DgT 32 u3 k (flatD ls k) := by
        obtain ⟨a1, a2⟩ := HOW.out
        refine ⟨a1, ?_⟩
        rcases a2 with a2 | ⟨g, cap, cur, hv, hbg, hh, hr⟩
        · exact .inl a2
        · exact .inr ⟨g, cap, cur, hv, hbg, (hb8.block g (blk_lt hh)).trans hh, hr⟩
      have HOW8 := Lib.hid hown8
      have HB8 := Lib.hid (HB.out.trans (hb8.mono HB.out.size))
      have HXD := Lib.hid hxd
      have HV8 := Lib.hid hV8
      clear hrg hxd hx2 hone ho8 hV8 hb8 hown8
      go_wp2_with (first
        | (with_reducible refine wpList_load_mid rfl 33 (.tmp 10) rfl b (o + k * 32) rfl xd.toList _ HR.out Tryz.underlying33 rfl HIL.out ?_)
        | (with_reducible refine wpList_store_row rfl 33 (.tmp 5) (.tmp 11) rfl _ _ rfl (by simp [Act.eval, Act.put]) 33 _ HO8.out HI.out HZ.out HO.out ?_; rw [← HV8.out])
        | (with_reducible refine wpList_load_row rfl 33 (.tmp 5) rfl _ rfl 33 _ _ _ HP8.out Tryz.underlying33 rfl HI.out ?_)
        | (with_reducible refine wpList_build1 rfl (.tmp 13) rfl xd HX2.out (by simp [Act.eval, Act.put]) ?_)
        | (at_builtin; refine wp_appD V8 rfl (.tmp 12) (.tmp 14) rfl w.heap.size u3 k (flatD ls k) xd HX2.out HO.out rfl HOW8.out rfl (by omega) HB8.out.size ?_; intro v' w1 hown1 hb1; have HOW1 := Lib.hid hown1; have HB1 := Lib.hid (HB8.out.trans hb1); clear hown1 hb1))
      go_roundg (n - (k + 1))
      case measure => omega
      case rel => exact ⟨k + 1, by go_num, by omega, by rw [flatD_snoc, ← HXD.out]; exact HOW1.out, HB1.out⟩
    · obtain rfl : k = n := by omega
      have HE := Lib.hid (tdig_end HOW.out HB.out HH.out.2)
      go_wp2_with fail
      go_ret
      exact HE.out
theorem few_small (n c : Nat) (A : Option Addr) (w : World) (hn : n ≤ 20) : Calls Tryz.prog 4 #[.slice A n c] w fun e w' => e = .returned (.slice A n c) ∧ w = w' := by
  have h1 : ¬ (20 : Int) < (n : Int) := by omega
  go_enter Tryz.func4, Tryz.ntmps4
  go_wp2
  go_ret
  exact ⟨rfl, rfl⟩
theorem few_big (n c b o : Nat) (w : World) (hn : 20 < n) (hc : n ≤ c) (hcm : c ≤ 9223372036854775807) : Calls Tryz.prog 4 #[.slice (some ⟨b, o, none⟩) n c] w fun e w' => e = .returned (.slice (some ⟨b, o, none⟩) 20 c) ∧ w = w' := by
  have h1 : (20 : Int) < (n : Int) := by omega
  have h2 : 20 < n := hn
  go_enter Tryz.func4, Tryz.ntmps4
  go_wp2
  go_ret
  exact ⟨rfl, rfl⟩
theorem tnew_zero (b c : Nat) (A : Option Addr) (w : World) : Calls Tryz.prog 5 #[.pointer (some ⟨b, 0, none⟩), .slice A 0 c] w fun e w' => e = .returned (.tuple #[.pointer none, .int .i64 1]) ∧ w = w' := by
  have HF := Lib.hid (fun W => fits_t 0 W)
  have hd : decide (1 ≤ 0 ∧ 0 ≤ 1024) = false := rfl
  rw [hd, show ((0 : Nat) : Int) = 0 from rfl] at HF
  clear hd
  go_enter Tryz.func5, Tryz.ntmps5
  go_wp2_with fail
  refine (HF.out _).mono ?_
  rintro e w' ⟨rfl, rfl⟩
  go_wp2_with fail
  exact bodyPost_ret (v := .tuple #[.pointer none, .int .i64 1]) (by simp [results, Tryz.results5, go_sem]) rfl ⟨rfl, rfl⟩
end
section
open Go.RowKit Go Go.WideShapes Go.ChangeShapes Go.Deep
set_option linter.unusedVariables false
set_option linter.unusedSimpArgs false
section
variable {H : Type} {enc : TypeId × Value → H} {w : World}
theorem cells_u8t : Tryz.prog.cellsOf 5 = 1 := by kernel_rfl
theorem cells_d32t : Tryz.prog.cellsOf 33 = 32 := by kernel_rfl
theorem d32_cells {m : Nat} {cs : List Value} {x : DataW H × List MemPlace} (hlen : cs.length = 32) (h : DataW.trod enc Tryz.prog w 0 (fun _ => true) true m 33 cs = some x) : ∃ l : List Nat, IsDig l ∧ cs = (dA l).toList := by
  obtain ⟨xs, k2, _, _, hl2, hxl, hel⟩ := DataW.trod_array Tryz.underlying33 h
  have hcell : ∀ i, i < 32 → ∃ q : Nat, q < 256 ∧ cs[i]? = some (.int .u8 (q : Int)) := fun i hi => by
    have h2 := hel i hi
    rw [cells_u8t, Nat.mul_one] at h2
    obtain ⟨y, hy⟩ : ∃ y, xs[i]? = some y := ⟨_, List.getElem?_eq_getElem (by omega)⟩
    rw [hy] at h2
    obtain ⟨z2, hz2, _, hw2⟩ := DataW.trod_int Tryz.underlying5 h2
    obtain ⟨q, hq, rfl⟩ := nat_u8 hw2
    refine ⟨q, hq, ?_⟩
    have h3 := congrArg (fun l => l[0]?) hz2
    simp only [List.getElem?_cons_zero] at h3
    rw [← h3, List.getElem?_take_of_lt (by omega), List.getElem?_drop]
    rfl
  have hq : ∀ i, ∃ q : Nat, i < 32 → q < 256 ∧ cs[i]? = some (.int .u8 (q : Int)) := fun i => by
    by_cases hi : i < 32
    · obtain ⟨q, h2⟩ := hcell i hi; exact ⟨q, fun _ => h2⟩
    · exact ⟨0, fun h => absurd h hi⟩
  obtain ⟨f, hf⟩ := Classical.skolem.1 hq
  have hg : ∀ j, j < 32 → ((List.range 32).map f).getD j 0 = f j := fun j hj => by rw [List.getD_eq_getElem?_getD, List.getElem?_map, List.getElem?_range hj]; rfl
  refine ⟨(List.range 32).map f, ⟨by simp, fun j => ?_⟩, List.ext_getElem? fun j => ?_⟩
  · by_cases hj : j < 32
    · rw [hg j hj]; exact (hf j hj).1
    · rw [List.getD_eq_getElem?_getD, List.getElem?_eq_none (by simp; omega)]; simp
  · by_cases hj : j < 32
    · rw [(hf j hj).2, Array.getElem?_toList, rowV_at _ hj]
      unfold bF
      rw [hg j hj]
      rfl
    · rw [List.getElem?_eq_none (by omega), List.getElem?_eq_none (by simp [rowV_size]; omega)]
theorem d32s_open {A : Option Addr} {n c : Nat} {d : DataW H} {p : List MemPlace} (h : DataW.Trod enc Tryz.prog w 0 (fun _ => true) true 22 (.slice A n c) d p) : (∃ ls, DgS w A n ls) ∧ n ≤ c ∧ c ≤ 9223372036854775807 := by
  obtain ⟨fuel, hfu⟩ := h
  rcases open_slice Tryz.underlying22 hfu with ⟨hcs, _⟩ | ⟨a, len, cap, m, k, D, Pl, hcs, _, hl, hm, hmm, _, hi⟩
  · simp [Value.cells] at hcs
    obtain ⟨rfl, rfl, rfl⟩ := hcs
    exact ⟨⟨fun _ => zero32L, fun h => absurd h (by omega), fun _ => zero32_dig⟩, by omega, by omega⟩
  · simp [Value.cells] at hcs
    obtain ⟨rfl, rfl, rfl⟩ := hcs
    have hm2 : m = c := by simpa using hmm
    refine ⟨?_, hl, by unfold maxLen at hm; omega⟩
    have key : ∀ i, ∃ l : List Nat, IsDig l ∧ (i < n → ∀ j v, (dA l).toList[j]? = some v → w.cell? ((a.add (i * 32)).add j) = some v) := fun i => by
      by_cases hin : i < n
      · obtain ⟨cs', hc, ht'⟩ := hi i (by omega)
        rw [cells_d32t] at hc
        obtain ⟨_, hcl, hat⟩ := World.cells?_some hc
        obtain ⟨l, h1, h2⟩ := d32_cells hcl ht'
        refine ⟨l, h1, fun _ j v hv => ?_⟩
        have hj : j < 32 := by have := (List.getElem?_eq_some_iff.1 hv).1; simpa [rowV_size] using this
        rw [hat j hj, h2]; exact hv
      · exact ⟨zero32L, zero32_dig, fun x => absurd x hin⟩
    obtain ⟨ls, hls⟩ := Classical.skolem.1 key
    refine ⟨ls, fun hn0 => ?_, fun k => (hls k).1⟩
    obtain ⟨b, off, spot⟩ := a
    have hk0 := (hls 0).2 hn0
    have h00 : (dA (ls 0)).toList[0]? = some (bF (ls 0) 0) := by rw [Array.getElem?_toList]; exact rowV_at _ (by omega)
    have hc0 := hk0 0 _ h00
    have hspot : spot = none := by simpa [Addr.add] using World.cell?_spot hc0
    subst hspot
    refine ⟨b, off, rfl, by simpa [Go.WideShapes.add_plain] using block_lt_of_cell hc0, fun i hin j v hv => ?_⟩
    have := (hls i).2 hin j v hv
    rwa [Go.WideShapes.add_plain, Go.WideShapes.add_plain] at this
end
end
section
open Go.RowKit Go
set_option linter.unusedVariables false
set_option linter.unusedSimpArgs false
/-- what Node tells -/
def nodeK (D : Nat) (F : Nat → Nat → List Nat) (d i : Int) : List Nat := if 0 ≤ d ∧ d ≤ (D : Int) ∧ 0 ≤ i ∧ i < (2 : Int) ^ (D - d.toNat) then F d.toNat i.toNat else zero32L
theorem nodeK_in {D d i : Nat} {F : Nat → Nat → List Nat} (hd : d ≤ D) (hi : i < 2 ^ (D - d)) : nodeK D F (d : Int) (i : Int) = F d i := by
  unfold nodeK
  rw [if_pos, Int.toNat_natCast, Int.toNat_natCast]
  refine ⟨by omega, by omega, by omega, ?_⟩
  rw [Int.toNat_natCast]
  exact_mod_cast hi
theorem nodeK_out {D : Nat} {F : Nat → Nat → List Nat} {d i : Int} (h : d < 0 ∨ (D : Int) < d ∨ i < 0 ∨ (2 : Int) ^ (D - d.toNat) ≤ i) : nodeK D F d i = zero32L := by
  unfold nodeK
  rw [if_neg]
  rintro ⟨h1, h2, h3, h4⟩
  omega
set_option maxHeartbeats 1000000 in
set_option maxRecDepth 100000 in
theorem tnode_any (T b n D lb cap : Nat) (d k : Int) (q : Nat → Nat) (F : Nat → Nat → List Nat) (w : World) (h : TrB w T b n D lb cap q F) (hkb : k ≤ 9223372036854775807) :
    Calls Tryz.prog 24 #[.pointer (some ⟨T, 0, none⟩), .int .i64 d, .int .i64 k] w fun e w' => e = .returned (.agg (dA (nodeK D F d k))) ∧ Below w.heap.size w w' := by
  by_cases hin : 0 ≤ d ∧ d ≤ (D : Int) ∧ 0 ≤ k ∧ k < (2 : Int) ^ (D - d.toNat)
  · obtain ⟨h1, h2, h3, h4⟩ := hin
    obtain ⟨d', rfl⟩ : ∃ d' : Nat, d = (d' : Int) := ⟨d.toNat, by omega⟩
    obtain ⟨i, rfl⟩ : ∃ i : Nat, k = (i : Int) := ⟨k.toNat, by omega⟩
    rw [Int.toNat_natCast] at h4
    have hi : i < 2 ^ (D - d') := by exact_mod_cast h4
    rw [nodeK_in (by omega) hi]
    exact tnode_in T b n D lb cap d' i q F w h (by omega) hi
  · have hz := zero_dig
    have hb1 : Below w.heap.size w (w.alloc (.cells (zeros 32) DgT)) := (Below.refl _ _).alloc (Nat.le_refl _) _
    have h1 := h.next hb1
    have k2 := h1.c2
    have HN := Lib.hid (tnone_any T b n D lb cap q F _ h1)
    have HDP := Lib.hid (tdepth_any T b n D lb cap q F _ h1)
    have hD := h.D5
    have HI := Lib.hid (info_dig (cs := zeros 32) (by simp [zeros]))
    have HO : Hid ((zeros 32).all (·.oneCell') = true) := Lib.hid (by kernel_rfl)
    have HX := Lib.hid (heap_alloc_new w (.cells (zeros 32) DgT))
    have HFX := Lib.hid (setRow_heap _ _ _ (zeros 32) _ _ (heap_alloc_new w (.cells (zeros 32) DgT)))
    have HFB := Lib.hid (below_setRow (g := w.heap.size) hb1 (Nat.le_refl _) (zeros 32))
    rcases (by omega : d < 0 ∨ (0 ≤ d ∧ (D : Int) < d) ∨ (0 ≤ d ∧ d ≤ (D : Int) ∧ k < 0) ∨ (0 ≤ d ∧ d ≤ (D : Int) ∧ 0 ≤ k)) with hc | ⟨hc, hc2⟩ | ⟨hc, hc2, hc3⟩ | ⟨hc, hc2, hc3⟩
    · rw [nodeK_out (.inl hc), zero32_cells]
      have a1 : decide (d < 0) = true := decide_eq_true hc
      clear h h1 hb1 hin
      go_enter Tryz.func24, Tryz.ntmps24
      go_wp2_with fail
      refine HN.out.mono ?_
      rintro e w' ⟨rfl, rfl⟩
      go_wp2_with (with_reducible refine wpList_store_row rfl DgT (.tmp 6) (.tmp 35) rfl _ _ rfl rfl DgT _ HX.out HI.out rfl HO.out ?_)
      exact bodyPost_ret (v := .agg (zeros 32)) (results_cell_row rfl _ _ _ DgT _ (0, 0) _ rfl HFX.out Tryz.underlying34 rfl HI.out) rfl ⟨rfl, HFB.out⟩
    · rw [nodeK_out (.inr (.inl hc2)), zero32_cells]
      have a1 : decide (d < 0) = false := decide_eq_false (by omega)
      have a2 : decide ((D : Int) < d) = true := decide_eq_true hc2
      clear h h1 hb1 hin
      go_enter Tryz.func24, Tryz.ntmps24
      go_wp2_with fail
      refine HN.out.mono ?_
      rintro e w' ⟨rfl, rfl⟩
      go_wp2_with fail
      refine HDP.out.mono ?_
      rintro e w' ⟨rfl, rfl⟩
      go_wp2_with (with_reducible refine wpList_store_row rfl DgT (.tmp 6) (.tmp 35) rfl _ _ rfl rfl DgT _ HX.out HI.out rfl HO.out ?_)
      exact bodyPost_ret (v := .agg (zeros 32)) (results_cell_row rfl _ _ _ DgT _ (0, 0) _ rfl HFX.out Tryz.underlying34 rfl HI.out) rfl ⟨rfl, HFB.out⟩
    · rw [nodeK_out (.inr (.inr (.inl hc3))), zero32_cells]
      have a1 : decide (d < 0) = false := decide_eq_false (by omega)
      have a2 : decide ((D : Int) < d) = false := decide_eq_false (by omega)
      have a3 : decide (k < 0) = true := decide_eq_true hc3
      clear h h1 hb1 hin
      go_enter Tryz.func24, Tryz.ntmps24
      go_wp2_with fail
      refine HN.out.mono ?_
      rintro e w' ⟨rfl, rfl⟩
      go_wp2_with fail
      refine HDP.out.mono ?_
      rintro e w' ⟨rfl, rfl⟩
      go_wp2_with (with_reducible refine wpList_store_row rfl DgT (.tmp 6) (.tmp 35) rfl _ _ rfl rfl DgT _ HX.out HI.out rfl HO.out ?_)
      exact bodyPost_ret (v := .agg (zeros 32)) (results_cell_row rfl _ _ _ DgT _ (0, 0) _ rfl HFX.out Tryz.underlying34 rfl HI.out) rfl ⟨rfl, HFB.out⟩
    · obtain ⟨d', rfl⟩ : ∃ d' : Nat, d = (d' : Int) := ⟨d.toNat, by omega⟩
      have hle : (2 : Int) ^ (D - d') ≤ k := by
        rw [Int.toNat_natCast] at hin
        rcases Int.lt_or_le k ((2 : Int) ^ (D - d')) with c | c
        · exact absurd ⟨hc, hc2, hc3, c⟩ hin
        · exact c
      rw [nodeK_out (.inr (.inr (.inr (by rw [Int.toNat_natCast]; exact hle)))), zero32_cells]
      have kr := h1.row d' (by omega)
      obtain ⟨N, hN⟩ : ∃ N : Nat, N = 2 ^ (D - d') := ⟨_, rfl⟩
      have hNi : ((2 : Int) ^ (D - d')) = (N : Int) := by rw [hN]; push_cast; rfl
      rw [hNi] at hle
      rw [← hN] at kr
      have a1 : decide ((d' : Int) < 0) = false := decide_eq_false (by omega)
      have a2 : decide ((D : Int) < (d' : Int)) = false := decide_eq_false (by omega)
      have a2' : decide (D < d') = false := decide_eq_false (by omega)
      have a3 : decide (k < 0) = false := decide_eq_false (by omega)
      have a4 : decide ((N : Int) ≤ k) = true := decide_eq_true hle
      clear h h1 hb1 hin hN hNi hc hc3
      go_enter Tryz.func24, Tryz.ntmps24
      go_wp2_with fail
      refine HN.out.mono ?_
      rintro e w' ⟨rfl, rfl⟩
      go_wp2_with fail
      refine HDP.out.mono ?_
      rintro e w' ⟨rfl, rfl⟩
      go_wp2_with (with_reducible refine wpList_store_row rfl DgT (.tmp 6) (.tmp 35) rfl _ _ rfl rfl DgT _ HX.out HI.out rfl HO.out ?_)
      exact bodyPost_ret (v := .agg (zeros 32)) (results_cell_row rfl _ _ _ DgT _ (0, 0) _ rfl HFX.out Tryz.underlying34 rfl HI.out) rfl ⟨rfl, HFB.out⟩
end
section
open Go.RowKit Go
set_option linter.unusedVariables false
set_option linter.unusedSimpArgs false
set_option maxRecDepth 100000
/-- how many levels stand above n leaves, up to 1024 -/
def dpX (n : Nat) : Nat := if n ≤ 1 then 0 else if n ≤ 2 then 1 else if n ≤ 4 then 2 else if n ≤ 8 then 3 else if n ≤ 16 then 4 else if n ≤ 32 then 5 else if n ≤ 64 then 6 else if n ≤ 128 then 7 else if n ≤ 256 then 8 else if n ≤ 512 then 9 else 10
theorem dpX_le (n : Nat) : dpX n ≤ 10 := by unfold dpX; repeat' split <;> try omega
theorem len8_all : ∀ m : Fin 256, Lib.len8 (m.1 : Int) = ((dpX (m.1 + 1) : Nat) : Int) := by decide +kernel
theorem len8_is {m : Nat} (h : m < 256) : Lib.len8 (m : Int) = ((dpX (m + 1) : Nat) : Int) := len8_all ⟨m, h⟩
theorem dpX_shift {m : Nat} (h : 256 ≤ m) (h2 : m < 1024) : dpX (m / 256 + 1) + 8 = dpX (m + 1) := by
  have : m / 256 = 1 ∨ m / 256 = 2 ∨ m / 256 = 3 := by omega
  unfold dpX
  rcases this with e | e | e <;> rw [e] <;> simp <;> (repeat' split) <;> omega
theorem tab_is {m : Nat} (h : m < 256) (hsz : m < Lib.len8tab.size) : (((Lib.len8tab[m]'hsz).toNat : Nat) : Int) = ((dpX (m + 1) : Nat) : Int) := by
  have e := len8_is h
  unfold Lib.len8 at e
  rw [Int.toNat_natCast, ByteArray.getElem?_lt' _ _ hsz, Option.getD_some] at e
  exact e
theorem len64_any (m : Nat) (h2 : m < 1024) (w : World) : Calls Tryz.prog 47 #[.int .u64 (m : Int)] w fun e w' => e = .returned (.int .i64 (dpX (m + 1) : Int)) ∧ w = w' := by
  have b1 : decide ((4294967296 : Int) ≤ (m : Int)) = false := decide_eq_false (by omega)
  have b2 : decide ((65536 : Int) ≤ (m : Int)) = false := decide_eq_false (by omega)
  by_cases h : m < 256
  · have b3 : ¬ (256 : Int) ≤ (m : Int) := by omega
    have hsz : m < Lib.len8tab.size := by rw [Lib.len8tab_size]; exact h
    have e9 := tab_is h hsz
    have em : (m : Int) % 256 = (m : Int) := by omega
    have hd10 := dpX_le (m + 1)
    generalize dpX (m + 1) = d at *
    go_enter Tryz.func47, Tryz.ntmps47
    go_wp2
    go_ret
    exact ⟨rfl, rfl⟩
  · have b3 : (256 : Int) ≤ (m : Int) := by omega
    have hq : m / 256 < 256 := by omega
    have hsz : m / 256 < Lib.len8tab.size := by rw [Lib.len8tab_size]; exact hq
    have e9 := tab_is hq hsz
    have hd := dpX_shift (by omega) h2
    have eq1 : (m : Int) / 256 = ((m / 256 : Nat) : Int) := by omega
    generalize m / 256 = q at *
    have em : (q : Int) % 256 = (q : Int) := by omega
    have hd10 := dpX_le (m + 1)
    have hd2 := dpX_le (q + 1)
    have HD := Lib.hid hd
    clear hd
    generalize dpX (m + 1) = d at *
    generalize dpX (q + 1) = d2 at *
    go_enter Tryz.func47, Tryz.ntmps47
    go_wp2
    go_ret
    exact ⟨ret_int (by have := HD.out; omega), rfl⟩
theorem blen_any (m : Nat) (h2 : m < 1024) (w : World) : Calls Tryz.prog 31 #[.int .u64 (m : Int)] w fun e w' => e = .returned (.int .i64 (dpX (m + 1) : Int)) ∧ w = w' := by
  have HL := Lib.hid (fun W => len64_any m h2 W)
  go_enter Tryz.func31, Tryz.ntmps31
  go_wp2_with fail
  refine (HL.out _).mono ?_
  rintro e w' ⟨rfl, rfl⟩
  go_wp2
  go_ret
  exact ⟨rfl, rfl⟩
theorem depth_x (n : Nat) (h1 : 1 ≤ n) (h2 : n ≤ 1024) (w : World) : Calls Tryz.prog 15 #[.int .i64 (n : Int)] w fun e w' => e = .returned (.int .i64 (dpX n : Int)) ∧ w = w' := by
  have HL := Lib.hid (fun W => blen_any (n - 1) (by omega) W)
  rw [show n - 1 + 1 = n by omega] at HL
  have e : (n : Int) - 1 = ((n - 1 : Nat) : Int) := by omega
  generalize n - 1 = m at *
  have hm : m < 1024 := by omega
  have eu : IntKind.u64.wrap (m : Int) = (m : Int) := IntWalk.u64_in _ (by omega)
  go_enter Tryz.func15, Tryz.ntmps15
  go_wp2_with fail
  refine (HL.out _).mono ?_
  rintro e w' ⟨rfl, rfl⟩
  go_wp2
  go_ret
  exact ⟨rfl, rfl⟩
set_option maxHeartbeats 4000000 in
theorem dpX_of {n k : Nat} (h1 : ∀ j, j < k → 2 ^ j < n) (h2 : n ≤ 2 ^ k) (hn : n ≤ 1024) : k = dpX n := by
  have hk : k ≤ 10 := by
    rcases Nat.lt_or_ge 10 k with c | c
    · have := h1 10 c; omega
    · exact c
  have q0 := h1 0; have q1 := h1 1; have q2 := h1 2; have q3 := h1 3; have q4 := h1 4; have q5 := h1 5; have q6 := h1 6; have q7 := h1 7; have q8 := h1 8; have q9 := h1 9
  unfold dpX
  rcases (by omega : k = 0 ∨ k = 1 ∨ k = 2 ∨ k = 3 ∨ k = 4 ∨ k = 5 ∨ k = 6 ∨ k = 7 ∨ k = 8 ∨ k = 9 ∨ k = 10) with rfl | rfl | rfl | rfl | rfl | rfl | rfl | rfl | rfl | rfl | rfl <;> simp at * <;> (repeat' split) <;> omega
theorem rdepth_x (n : Nat) (hn : n ≤ 1024) (w : World) : Calls Tryz.prog 12 #[.int .i64 (n : Int)] w fun e w' => e = .returned (.int .i64 (dpX n : Int)) ∧ w = w' := by
  go_enter Tryz.func12, Tryz.ntmps12
  go_wp2
  go_loopg [3, 4] 11 (fun gk kv wv W => ∃ k P : Nat, kv = .int .i64 (k : Int) ∧ wv = .int .i64 (P : Int) ∧ P = 2 ^ k ∧ k + gk = 11 ∧ (∀ j, j < k → 2 ^ j < n) ∧ W = w)
  case atStart => exact ⟨0, 1, rfl, rfl, rfl, rfl, fun j hj => by omega, rfl⟩
  case round =>
    obtain ⟨k, P, rfl, rfl, hP, hk, hj, rfl⟩ := hrel
    have HP := Lib.hid hP
    have HJ := Lib.hid hj
    have hk5 : k ≤ 11 := by omega
    have hPb : P ≤ 2048 := by rw [hP]; exact Nat.le_trans (Nat.pow_le_pow_right (by omega) hk5) (by decide)
    clear hP hj
    by_cases hlt : P < n
    · have h5 : k < 10 := by
        rcases Nat.lt_or_ge k 10 with c | c
        · exact c
        · have h1 := HP.out
          have h2 : 2 ^ 10 ≤ 2 ^ k := Nat.pow_le_pow_right (by omega) c
          omega
      go_wp2_with fail
      go_roundg (11 - (k + 1))
      case measure => omega
      case rel => exact ⟨k + 1, 2 * P, by go_num, by go_num, by rw [HP.out, Nat.pow_succ]; omega, by omega, fun j hj => by
        by_cases e : j = k
        · subst e; rw [← HP.out]; exact hlt
        · exact HJ.out j (by omega), rfl⟩
    · have hkd : k = dpX n := dpX_of HJ.out (by rw [← HP.out]; omega) hn
      have HKD := Lib.hid hkd
      clear hkd
      go_wp2_with fail
      go_ret
      exact ⟨by rw [HKD.out]; rfl, rfl⟩
end
section
open Go.RowKit Go
set_option linter.unusedVariables false
set_option linter.unusedSimpArgs false
set_option maxRecDepth 100000
/-- what stands d levels above leaf k: x, and what stands beside the way up, ps -/
def upS (k : Nat) (x : List Nat) (ps : Nat → List Nat) : Nat → List Nat
  | 0 => x
  | d + 1 => Sha.sum (nodeT (d + 1) (k / 2 ^ (d + 1)) (if (k / 2 ^ d) % 2 = 1 then ps d else upS k x ps d) (if (k / 2 ^ d) % 2 = 1 then upS k x ps d else ps d))
theorem upS_dig {k : Nat} {x : List Nat} {ps : Nat → List Nat} (h : IsDig x) : ∀ d, IsDig (upS k x ps d)
  | 0 => h
  | d + 1 => bk_dig _
def UpNo (w : World) (e : Ending) (w' : World) : Prop := e = .returned (.tuple #[.agg (zeros 32), .int .i64 1]) ∧ Below w.heap.size w w'
def UpYes (w : World) (b g : Nat) (S : Nat → Prop) (t : List Nat) (e : Ending) (w' : World) : Prop :=
  e = .returned (.tuple #[.agg (digA t), .int .i64 0]) ∧ Turns S w w' ∧ ∃ (S' : Nat → Prop) (Tx sh : List (List Nat)), IsBook w' b g S' Tx sh ∧ ∀ j, S' j → S j ∨ w.heap.size ≤ j
theorem yields_rowU {P : Program} {ops : Array Oper} {S : World → Prop} {o : Oper} {a : Act} (hw : Region.wanted o (yielded ops a.tmps) = true) (ty : TypeId) (x : Operand) (ho : o.op = .load ty x) (b off : Nat) (hx : a.eval x = .pointer (some ⟨b, off, none⟩)) (xs : Array Value) (d : TypeDesc)
    (hS : ∀ w, S w → w.rangeAt b off xs.toList) (hu : P.underlying ty = some d) (hd : d.isRow = true) (hi : (P.info? ty).map (·.size) = some xs.size) : YieldsIf P ops S o (.agg xs) a :=
  .inl ⟨hw, fun w h => by
    unfold execOp
    simp only [ho, hx, Instr.loadAt, Instr.sureAddr, Sem.run_bind, Sem.run_pure, Result.andThen_ok, run_loadVar_mid w b off ty xs.toList d (hS w h) hu hd (by simpa using hi), Array.toArray_toList]⟩
theorem range_cells {w : World} {g : Nat} {xs : Array Value} {t : TypeId} {fr : Nat × Nat} (h : w.heap[g]? = some (.cells xs t fr)) : w.rangeAt g 0 xs.toList := fun j v hv => by
  rw [Nat.zero_add, cell_of_row w g j xs t fr h]
  simpa using hv
theorem rts_row {P : Program} {fn : Func} {p u : Tmp} {ty : TypeId} (h : fn.results = #[.cell p ty, .tmp u]) (tmps : Array Value) (w : World) (g : Nat) (t : TypeId) (cs : Array Value) (fr : Nat × Nat) (d : TypeDesc)
    (v2 : Value) (hp : tmps.getD p undef = .pointer (some ⟨g, 0, none⟩)) (hv2 : tmps.getD u undef = v2) (hg : w.heap[g]? = some (.cells cs t fr))
    (hu : P.underlying ty = some d) (hd : (match d with | .struct _ | .array _ _ => true | _ => false) = true) (hi : (P.info? ty).map (·.size) = some cs.size) :
    (results fn tmps).run P w = .ok (.tuple #[.agg cs, v2]) w := by
  subst hv2
  have hp' : tmps[p]?.getD undef = .pointer (some ⟨g, 0, none⟩) := by simpa using hp
  simp [results, h, hp', asAddr, run_loadVar_row w g t ty cs fr d hg hu hd hi, Sem.run_bind, Result.andThen]
theorem tfits_no (n : Int) (hn : ¬ (1 ≤ n ∧ n ≤ 1024)) (w : World) : Calls Tryz.prog 14 #[.int .i64 n] w fun e w' => e = .returned (.bool false) ∧ w = w' := by
  by_cases h : 1 ≤ n
  · have h2 : ¬ n ≤ 1024 := fun c => hn ⟨h, c⟩
    go_enter Tryz.func14, Tryz.ntmps14
    go_wp2
    go_ret
    exact ⟨ret_bool (by simp; try omega), rfl⟩
  · go_enter Tryz.func14, Tryz.ntmps14
    go_wp2
    go_ret
    exact ⟨ret_bool (by simp; try omega), rfl⟩
end
section
open Go.RowKit Go
set_option linter.unusedVariables false
set_option linter.unusedSimpArgs false
set_option maxRecDepth 100000
/-- what the loop of Up keeps: p8.. the result's cell r, the place's p, the sum's q, and the book -/
def UpInv (w : World) (b g k p q : Nat) (S : Nat → Prop) (x : List Nat) (ps : Nat → List Nat) (m : Nat) (i : Value) (W : World) : Prop :=
  ∃ d : Nat, i = .int .i64 (d : Int) ∧ d ≤ m ∧ W.heap[w.heap.size + 1]? = some (.cells (zeros 32) 34 (0, 0)) ∧ W.heap[p]? = some (.cells #[.int .i64 (d : Int), .int .i64 ((k / 2 ^ d : Nat) : Int)] 61 (0, 0)) ∧
    W.heap[q]? = some (.cells (dA (upS k x ps d)) 34 (0, 0)) ∧ Turns S w W ∧ ∃ (S' : Nat → Prop) (Tx sh : List (List Nat)), IsBook W b g S' Tx sh ∧ (∀ j, S' j → S j ∨ w.heap.size ≤ j) ∧ ¬ S' (w.heap.size + 1) ∧ ¬ S' p ∧ ¬ S' q
theorem two_at (W0 : World) (o1 o2 : Obj) : ((W0.alloc o1).alloc o2).heap[W0.heap.size]? = some o1 ∧ ((W0.alloc o1).alloc o2).heap[W0.heap.size + 1]? = some o2 ∧ Below W0.heap.size W0 ((W0.alloc o1).alloc o2) ∧ ((W0.alloc o1).alloc o2).heap.size = W0.heap.size + 2 := by
  have e1 : (W0.alloc o1).heap.size = W0.heap.size + 1 := by simp
  refine ⟨(Below.heap_alloc _ _ _ (by omega)).trans (heap_alloc_new W0 o1), ?_, ((Below.refl _ _).alloc (Nat.le_refl _) _).alloc (by omega) _, by simp⟩
  rw [← e1]; exact heap_alloc_new _ o2
theorem two_set {W0 V : World} {p q : Nat} {P X oldp oldq : Array Value} {tp tq : TypeId} (hb : Below W0.heap.size W0 V) (hp : V.heap[p]? = some (.cells oldp tp (0, 0))) (hq : V.heap[q]? = some (.cells oldq tq (0, 0))) (hne : p ≠ q) (hp0 : W0.heap.size ≤ p) (hq0 : W0.heap.size ≤ q) :
    ((V.setRow p P).setRow q X).heap[p]? = some (.cells P tp (0, 0)) ∧ ((V.setRow p P).setRow q X).heap[q]? = some (.cells X tq (0, 0)) ∧ Below W0.heap.size W0 ((V.setRow p P).setRow q X) := by
  have h1 := setRow_heap V p oldp P tp (0, 0) hp
  have h2 : (V.setRow p P).heap[q]? = some (.cells oldq tq (0, 0)) := (setRow_other _ _ _ _ (fun e => hne e.symm)).trans hq
  exact ⟨(setRow_other _ _ _ _ hne).trans h1, setRow_heap _ q oldq X tq (0, 0) h2, below_setRow (below_setRow hb hp0 _) hq0 _⟩
theorem one_pl (a b : Int) : (#[Value.int .i64 a, Value.int .i64 b] : Array Value).all (·.oneCell') = true := by first | rfl | kernel_rfl | simp [Value.oneCell'] | (simp; exact ⟨rfl, rfl⟩)
theorem turns_setRow (w : World) (a : Nat) (cs : Array Value) : Turns (fun j => j = a) w (w.setRow a cs) := ⟨rfl, rfl, rfl, by rw [size_setRow]; exact Nat.le_refl _, fun j _ hn => setRow_other _ _ _ _ hn⟩
theorem bk_setRow {w : World} {b g : Nat} {S : Nat → Prop} {T sh : List (List Nat)} (h : IsBook w b g S T sh) {a : Nat} (ha : ¬ S a) (cs : Array Value) : IsBook (w.setRow a cs) b g S T sh := h.turns (F := fun j => j = a) (turns_setRow w a cs) (fun j hj => by subst hj; exact ha)
theorem tS_setRow {S : Nat → Prop} {w W : World} (h : Turns S w W) {a : Nat} (ha : w.heap.size ≤ a) (cs : Array Value) : Turns S w (W.setRow a cs) := h.trans (turns_setRow W a cs) (fun j hj e => by omega)
theorem turnsU {w w' : World} {S : Nat → Prop} {k : Nat} {cs : Array Value} {t : TypeId} (h : Turns S w w') (hk : ¬ S k) (ho : w.heap[k]? = some (.cells cs t (0, 0))) : w'.heap[k]? = some (.cells cs t (0, 0)) := (h.block k (blk_lt ho) hk).trans ho
theorem info_pl : (Tryz.prog.info? 61).map (·.size) = some 2 := by kernel_rfl
theorem info_pl2 (a b : Int) : (Tryz.prog.info? 61).map (·.size) = some (#[Value.int .i64 a, Value.int .i64 b] : Array Value).size := info_pl
theorem sz_pl (a b c d : Int) : (#[Value.int .i64 a, Value.int .i64 b] : Array Value).size = (#[Value.int .i64 c, Value.int .i64 d] : Array Value).size := rfl
end
section
open Go.RowKit Go
set_option linter.unusedVariables false
set_option linter.unusedSimpArgs false
def bsN (i : Nat) : Nat := if i % 2 = 1 then i - 1 else i + 1
theorem bsN_xor (i : Nat) : i ^^^ 1 = bsN i := by
  have h1 : (i ^^^ 1) / 2 = i / 2 := by rw [Nat.xor_div_two]; simp
  have h2 : (i ^^^ 1) % 2 = (i % 2) ^^^ 1 := by
    have := Nat.xor_mod_two_pow (a := i) (b := 1) (n := 1)
    simpa using this
  unfold bsN
  rcases Nat.mod_two_eq_zero_or_one i with h | h
  · rw [h] at h2 ⊢
    rw [if_neg (by omega)]
    have : (0 ^^^ 1 : Nat) = 1 := rfl
    omega
  · rw [h] at h2 ⊢
    rw [if_pos rfl]
    have : (1 ^^^ 1 : Nat) = 0 := rfl
    omega
theorem bsN_lt {i n : Nat} (h : i < 2 ^ (n + 1)) : bsN i < 2 ^ (n + 1) := by
  unfold bsN
  have : 2 ^ (n + 1) = 2 * 2 ^ n := by rw [Nat.pow_succ]; omega
  split <;> omega
theorem up_tree {D k : Nat} {F : Nat → Nat → List Nat} (hr : ∀ d i, d + 1 ≤ D → i < 2 ^ (D - (d + 1)) → Right F d i) (hk : k < 2 ^ D) : ∀ d, d ≤ D → upS k (F 0 k) (fun d => F d (bsN (k / 2 ^ d))) d = F d (k / 2 ^ d)
  | 0, _ => by show F 0 k = F 0 (k / 2 ^ 0); rw [Nat.pow_zero, Nat.div_one]
  | d + 1, h => by
    have ih := up_tree hr hk d (by omega)
    have hlt : k / 2 ^ (d + 1) < 2 ^ (D - (d + 1)) := by
      rw [Nat.div_lt_iff_lt_mul (Nat.two_pow_pos _), ← Nat.pow_add, show D - (d + 1) + (d + 1) = D by omega]; exact hk
    have h1 := hr d (k / 2 ^ (d + 1)) h hlt
    unfold Right at h1
    have e : k / 2 ^ (d + 1) = k / 2 ^ d / 2 := by rw [Nat.pow_succ, Nat.div_div_eq_div_mul]
    unfold upS
    rw [h1, ih]
    obtain ⟨j, hj⟩ : ∃ j, j = k / 2 ^ d := ⟨_, rfl⟩
    rw [e, ← hj]
    rcases Nat.mod_two_eq_zero_or_one j with hm | hm
    · rw [if_neg (by omega), if_neg (by omega)]
      have e1 : bsN j = 2 * (j / 2) + 1 := by unfold bsN; rw [if_neg (by omega)]; omega
      have e2 : j = 2 * (j / 2) := by omega
      rw [e1, ← e2]
    · rw [if_pos hm, if_pos hm]
      have e1 : bsN j = 2 * (j / 2) := by unfold bsN; rw [if_pos hm]; omega
      have e2 : j = 2 * (j / 2) + 1 := by omega
      rw [e1, ← e2]
theorem thas_any (T b n D lb cap : Nat) (k : Int) (q : Nat → Nat) (F : Nat → Nat → List Nat) (w : World) (h : TrB w T b n D lb cap q F) :
    Calls Tryz.prog 28 #[.pointer (some ⟨T, 0, none⟩), .int .i64 k] w fun e w' => e = .returned (.bool (decide (0 ≤ k ∧ k < (n : Int)))) ∧ w = w' := by
  have HL := Lib.hid (tlen_any T b n D lb cap q F w h)
  clear h
  obtain ⟨bb, hbb⟩ : ∃ bb, bb = decide (0 ≤ k ∧ k < (n : Int)) := ⟨_, rfl⟩
  rw [← hbb]
  by_cases h0 : 0 ≤ k
  · have HD : Hid (decide (k < (n : Int)) = bb) := Lib.hid (by rw [hbb]; simp [h0])
    clear hbb
    go_enter Tryz.func28, Tryz.ntmps28
    go_wp2_with fail
    refine HL.out.mono ?_
    rintro e w' ⟨rfl, rfl⟩
    go_wp2
    go_ret
    exact ⟨by rw [← HD.out]; rfl, rfl⟩
  · have HD : Hid (bb = false) := Lib.hid (by rw [hbb]; simp [h0])
    clear hbb
    go_enter Tryz.func28, Tryz.ntmps28
    go_wp2
    go_ret
    exact ⟨by rw [HD.out]; rfl, rfl⟩
theorem beside_any (l i : Nat) (hi : i ≤ 1000000) (w : World) : Calls Tryz.prog 30 #[.agg #[.int .i64 (l : Int), .int .i64 (i : Int)]] w fun e w' => e = .returned (.int .i64 (bsN i : Int)) ∧ Below w.heap.size w w' := by
  have HX : Hid (bits .xor .i64 (i : Int) 1 = (bsN i : Int)) := Lib.hid (by rw [← bsN_xor]; exact xori (a := i) (b := 1) (by omega) (by omega))
  have hx := HX.out
  generalize bsN i = j at *
  go_enter Tryz.func30, Tryz.ntmps30
  go_wp2
  go_ret
  exact ⟨rfl, (Below.refl _ _).alloc (Nat.le_refl _) _⟩
theorem make_dg (D : Nat) (hD : D ≤ 1000) : ∃ cs : Array Value, cs.size = D * 32 ∧ ∀ w, (Instr.makeSlice 30 (.int .i64 0) (.int .i64 (D : Int))).run Tryz.prog w = .ok (.slice (some ⟨w.heap.size, 0, none⟩) 0 D) (w.alloc (.cells cs DgT)) := by
  obtain ⟨i, h0, h1, h2, h3⟩ := info_parts dg_info
  refine ⟨madeCells (Value.agg (zeros 32)).cells (D * 32), by unfold madeCells; simp, fun w => ?_⟩
  have hr := run_make (P := Tryz.prog) w 30 DgT i _ Tryz.underlying30 h0 h1 .i64 .i64 0 D (by omega) (by omega) (by rw [h3]; omega) (by omega)
  rw [hr, h2]
  simp only [Int.toNat_natCast, Int.toNat_zero]
theorem step_bd1 {K : Act → World → Prop} {o : Oper} {a : Act} {w : World} {Q : Exit → Act → World → Prop} (x : Operand) (ho : o.op = .buildSlice 30 1 #[(0, x)]) (xd : Array Value) (hx2 : xd.size = 32) (hx : a.eval x = .agg xd)
    (h : K (a.put o.dst (.slice (some ⟨w.heap.size, 0, none⟩) 1 1)) (w.alloc (.cells xd DgT))) : Oper.wp Tryz.prog o a w K Q := by
  obtain ⟨ie, h0, h1, h2, h3⟩ := info_parts dg_info
  refine wp_buildSlice 30 DgT 1 #[(0, x)] ho xd ie _ Tryz.underlying30 h0 h1 (by rw [h2]; omega) (by rw [h2]; omega) ?_ h
  rw [h2]
  simp only [List.map_toArray, List.map_cons, List.map_nil, hx]
  exact fill_one xd hx2
theorem step_apD {K : Act → World → Prop} {o : Oper} {a : Act} {Q : Exit → Act → World → Prop} (W : World) (s x : Operand)
    (ho : o.op = .call { callee := .builtin .append, args := #[s, x], argTypes := #[30, 30] })
    (B : Nat) (v : Value) (n : Nat) (xs : List Value) (xd : Array Value) (hx32 : xd.size = 32) (hone : xd.all (·.oneCell') = true) (hs : a.eval s = v) (hown : W.ownsRow B DgT 32 v n xs) (e : Nat) (he : W.heap[e]? = some (.cells xd DgT (0, 0)))
    (hx : a.eval x = .slice (some ⟨e, 0, none⟩) 1 1) (hn : n < 1000) (hB : B ≤ W.heap.size)
    (h : ∀ v' w', w'.ownsRow B DgT 32 v' (n + 1) (xs ++ xd.toList) → Below B W w' → (∀ k, k < W.heap.size → v.ownBlock ≠ some k → w'.heap[k]? = W.heap[k]?) → K (a.put o.dst v') w') :
    Oper.wp Tryz.prog o a W K Q := by
  obtain ⟨i0, hi, hz0, hz1, hz2⟩ := info_parts dg_info
  refine wp_append_own _ s x 30 ho B DgT i0 (.agg (zeros 32)) 32 32 Tryz.underlying30 hi hz0 hz1 hz2 (by simp [Value.cells, zeros]) (by decide) v n xs hs hown ⟨e, 0, none⟩ 1 1
    xd.toList hx (by rw [Array.length_toList]; omega) ?_ ?_ (by unfold maxLen; omega) (by omega) hB ?_
  · intro j u hj
    have e1 : (⟨e, 0, none⟩ : Addr).add j = ⟨e, j, none⟩ := by unfold Addr.add; split <;> simp_all
    rw [e1, blk_cell he j]
    simpa using hj
  · intro u hu
    exact (Array.all_eq_true_iff_forall_mem.1 hone) u (by simpa using hu)
  · intro v' w1 hown' hg _
    exact h v' w1 hown' ((Below.refl B W).grown hg hB (fun k hk => (World.ownsRow.lt hown k hk).1)) (fun k hk hne => hg.block k hk (fun e => hne e.symm))
theorem own_far {w : World} {B s n b : Nat} {v : Value} {e t : TypeId} {vs : List Value} {cs : Array Value} {f : Nat × Nat} (h : w.ownsRow B e s v n vs) (hb : w.heap[b]? = some (.cells cs t f)) (ht : t ≠ e) : v.ownBlock ≠ some b := fun hv => by
  obtain ⟨_, k⟩ := h
  rcases k with ⟨rfl, _⟩ | ⟨g2, cap, cur, rfl, _, hh, _⟩
  · cases hv
  · have e2 : g2 = b := Option.some.inj (show (some g2 : Option Nat) = some b from hv)
    subst e2
    rw [hb] at hh
    have h4 := Option.some.inj hh
    injection h4 with _ h5 _
    exact ht h5
theorem own_keepH {w w' : World} {B s n : Nat} {v : Value} {e : TypeId} {vs : List Value} (h : w.ownsRow B e s v n vs) (hk : ∀ g, v.ownBlock = some g → w'.heap[g]? = w.heap[g]?) : w'.ownsRow B e s v n vs := by
  obtain ⟨a1, a2⟩ := h
  refine ⟨a1, ?_⟩
  rcases a2 with a2 | ⟨g, cap, cur, hv, hbg, hh, hr⟩
  · exact .inl a2
  · exact .inr ⟨g, cap, cur, hv, hbg, (hk g (by rw [hv]; rfl)).trans hh, hr⟩
/-- a row of one's own is new -/
def PthTo (w : World) (n : Nat) (ls : Nat → List Nat) (e : Ending) (w' : World) : Prop := ∃ A c, e = .returned (.slice A n c) ∧ n ≤ c ∧ DgS w' A n ls ∧ Below w.heap.size w w' ∧ ∀ ad, A = some ad → w.heap.size ≤ ad.block
theorem pth_end {w W : World} {n : Nat} {ls : Nat → List Nat} {v : Value} (h : W.ownsRow w.heap.size DgT 32 v n (flatD ls n)) (hb : Below w.heap.size w W) (hd : ∀ k, IsDig (ls k)) : PthTo w n ls (.returned v) W := by
  obtain ⟨A, c, he, h1, h2, h3⟩ := tdig_end h hb hd
  refine ⟨A, c, he, h1, h2, h3, fun ad hA => ?_⟩
  injection he with he
  rw [he] at h
  exact (World.ownsRow.lt h ad.block (by rw [hA]; rfl)).1
end
section
open Go.RowKit Go
set_option linter.unusedVariables false
set_option linter.unusedSimpArgs false
set_option maxRecDepth 100000
theorem tpath_out (T b n D lb cap : Nat) (k : Int) (q : Nat → Nat) (F : Nat → Nat → List Nat) (w : World) (h : TrB w T b n D lb cap q F) (hk : ¬ (0 ≤ k ∧ k < (n : Int))) :
    Calls Tryz.prog 13 #[.pointer (some ⟨T, 0, none⟩), .int .i64 k] w fun e w' => e = .returned (.slice none 0 0) ∧ w = w' := by
  have HH := Lib.hid (thas_any T b n D lb cap k q F w h)
  rw [decide_eq_false hk] at HH
  clear h hk
  go_enter Tryz.func13, Tryz.ntmps13
  go_wp2_with fail
  refine HH.out.mono ?_
  rintro e w' ⟨rfl, rfl⟩
  go_wp2
  go_ret
  exact ⟨rfl, rfl⟩
def psF (F : Nat → Nat → List Nat) (k : Nat) (d : Nat) : List Nat := F d (bsN (k / 2 ^ d))
def PaR (w : World) (T b n D lb cap k : Nat) (q : Nat → Nat) (F : Nat → Nat → List Nat) (gk : Nat) (v5 v6 : Value) (W : World) : Prop :=
  ∃ d p6 : Nat, d + gk = D ∧ v6 = .pointer (some ⟨p6, 0, none⟩) ∧ W.ownsRow w.heap.size DgT 32 v5 d (flatD (psF F k) d) ∧ W.heap[p6]? = some (.cells #[.int .i64 (d : Int), .int .i64 ((k / 2 ^ d : Nat) : Int)] 61 (0, 0)) ∧ w.heap.size ≤ p6 ∧ Below w.heap.size w W
set_option maxHeartbeats 8000000 in
theorem tpath_any (T b n D lb cap k : Nat) (q : Nat → Nat) (F : Nat → Nat → List Nat) (w : World) (h : TrB w T b n D lb cap q F) (hk : k < n) (hn : n ≤ 1024) :
    Calls Tryz.prog 13 #[.pointer (some ⟨T, 0, none⟩), .int .i64 (k : Int)] w (PthTo w D (psF F k)) := by
  have hD10 := h.D5
  have hkD : k < 2 ^ D := Nat.lt_of_lt_of_le hk h.n1.2
  have HH := Lib.hid (thas_any T b n D lb cap k q F w h)
  rw [decide_eq_true (show (0 : Int) ≤ (k : Int) ∧ (k : Int) < (n : Int) from ⟨by omega, by omega⟩)] at HH
  have HTR := Lib.hid h
  have HD0 := Lib.hid (tdepth_any T b n D lb cap q F w h)
  obtain ⟨zc, hzs, hmk⟩ := make_dg D (by omega)
  obtain ⟨W0, hW0⟩ : ∃ W0, W0 = (w.alloc (.cells zc DgT)).alloc (.cells #[.int .i64 0, .int .i64 (k : Int)] 61) := ⟨_, rfl⟩
  have hb0 : Below w.heap.size w W0 := by rw [hW0]; exact ((Below.refl _ _).alloc (Nat.le_refl _) _).alloc (by simp) _
  have hown0 : W0.ownsRow w.heap.size DgT 32 (.slice (some ⟨w.heap.size, 0, none⟩) 0 D) 0 (flatD (psF F k) 0) := by
    rw [hW0]
    exact World.ownsRow.alloc (World.ownsRow_made w zc D (Nat.le_refl _) (by unfold maxLen; omega) hzs) _
  have hp0 : W0.heap[w.heap.size + 1]? = some (.cells #[.int .i64 0, .int .i64 (k : Int)] 61 (0, 0)) := by
    have := heap_alloc_new (w.alloc (.cells zc DgT)) (.cells #[.int .i64 0, .int .i64 (k : Int)] 61)
    rw [show (w.alloc (.cells zc DgT)).heap.size = w.heap.size + 1 by simp] at this
    rw [hW0]; exact this
  have HR0 : Hid (PaR w T b n D lb cap k q F D (.slice (some ⟨w.heap.size, 0, none⟩) 0 D) (.pointer (some ⟨w.heap.size + 1, 0, none⟩)) W0) := Lib.hid ⟨0, w.heap.size + 1, by omega, rfl, hown0, by rw [Nat.pow_zero, Nat.div_one]; exact hp0, by omega, hb0⟩
  have HW0 := Lib.hid hW0
  have hDI : (0 : Int) ≤ (D : Int) := by omega
  clear h hW0 hb0 hown0 hp0 hzs hk
  go_enter Tryz.func13, Tryz.ntmps13
  go_wp2_with fail
  refine HH.out.mono ?_
  rintro e w' ⟨rfl, rfl⟩
  go_wp2_with fail
  refine HD0.out.mono ?_
  rintro e w' ⟨rfl, rfl⟩
  go_wp2_with fail
  rw [← HW0.out]
  clear hmk HW0 HD0 HH
  go_loopg [5, 6] D (fun gk v5 v6 W => PaR w T b n D lb cap k q F gk v5 v6 W)
  case atStart => exact HR0.out
  case round =>
    clear HR0
    obtain ⟨d, p6, hgk, rfl, hown, hp, hpn, hb⟩ := hrel
    have HOW := Lib.hid hown
    have HP := Lib.hid hp
    have HPN := Lib.hid hpn
    have HB := Lib.hid hb
    have HGK := Lib.hid hgk
    clear hown hp hpn hb
    obtain ⟨i, hi⟩ : ∃ i, i = k / 2 ^ d := ⟨_, rfl⟩
    have HI := Lib.hid hi
    have hi9 : i ≤ 1000000 := by
      have : k / 2 ^ d ≤ k := Nat.div_le_self _ _
      have : 2 ^ D ≤ 2 ^ 10 := Nat.pow_le_pow_right (by omega) hD10
      omega
    rw [← hi] at HP
    clear hi
    obtain ⟨V, hV⟩ : ∃ V, V = wr.drew := ⟨_, rfl⟩
    have hbv : Below wr.heap.size wr V := by rw [hV]; exact (Below.refl _ _).drew
    have HBV := Lib.hid (HB.out.trans (hbv.mono HB.out.size))
    have HPV : Hid (V.heap[p6]? = some (.cells #[.int .i64 (d : Int), .int .i64 (i : Int)] 61 (0, 0))) := Lib.hid ((hbv.block _ (blk_lt HP.out)).trans HP.out)
    have HOV : Hid (V.ownsRow w.heap.size DgT 32 u5 d (flatD (psF F k) d)) := Lib.hid (own_keepH HOW.out (fun g hg => hbv.block g (World.ownsRow.lt HOW.out g hg).2))
    have HTV := Lib.hid (HTR.out.next HBV.out)
    have HDP := Lib.hid (tdepth_any T b n D lb cap q F V HTV.out)
    have HK : Hid (∀ W, Below V.heap.size V W → W.cell? ⟨p6, 0, none⟩ = some (.int .i64 (d : Int)) ∧ W.cell? ⟨p6, 1, none⟩ = some (.int .i64 (i : Int))) := Lib.hid (fun W hw => by
      have hx := (hw.block _ (blk_lt HPV.out)).trans HPV.out
      exact ⟨blk_cell hx 0, blk_cell hx 1⟩)
    go_upto_region 5 with (fail)
    refine wp_region_F (S := fun (W : World) => W.cell? ⟨p6, 0, none⟩ = some (.int .i64 (d : Int)) ∧ W.cell? ⟨p6, 1, none⟩ = some (.int .i64 (i : Int))) [] (by kernel_rfl) (by rw [← hV]; exact HK.out V (Below.refl _ _)) (fun hHeld => ?_)
    rw [← hV] at hHeld ⊢
    clear hV hbv
    refine wpAnyF_take (i := 0) (oi := _) (v := ?_) rfl (by kernel_rfl) (by kernel_rfl) (by kernel_rfl) (by kernel_rfl) (fun _ _ _ h => h) (Or.inl ⟨by rfl, ?_⟩) (by assumption) ?_
    rotate_left 1
    · intro w hSw
      (try dsimp only at hSw)
      (first | (go_simp; done) | (go_simp; with_reducible rfl))
    (try simp only [Act.put, List.getElem_toArray, List.getElem_cons_succ, List.getElem_cons_zero, List.setIfInBounds_toArray, List.set_cons_zero, List.set_cons_succ])
    refine wpAnyF_take (i := 1) (oi := _) (v := ?_) rfl (by kernel_rfl) (by kernel_rfl) (by kernel_rfl) (by kernel_rfl) (fun _ _ _ h => h) (Or.inl ⟨by rfl, ?_⟩) (by assumption) ?_
    rotate_left 1
    · intro w hSw
      (try dsimp only at hSw)
      (first | (go_simp; done) | (go_simp; with_reducible rfl))
    (try simp only [Act.put, List.getElem_toArray, List.getElem_cons_succ, List.getElem_cons_zero, List.setIfInBounds_toArray, List.set_cons_zero, List.set_cons_succ])
    refine wpAnyF_take (i := 2) (oi := _) (v := ?_) rfl (by kernel_rfl) (by kernel_rfl) (by kernel_rfl) (by kernel_rfl) (fun _ _ _ h => h) (Or.inl ⟨by rfl, ?_⟩) (by assumption) ?_
    rotate_left 1
    · intro w hSw
      (try dsimp only at hSw)
      (first | (go_simp; done) | (go_simp; with_reducible rfl))
    (try simp only [Act.put, List.getElem_toArray, List.getElem_cons_succ, List.getElem_cons_zero, List.setIfInBounds_toArray, List.set_cons_zero, List.set_cons_succ])
    refine wpAnyF_ready (rs := [3]) (by kernel_rfl) (by simp) ?_
    refine AllReadyF.cons (o := _) rfl (fun K hK => ?_) AllReadyF.nil
    go_simp
    (go_at_call 25)
    refine (HDP.out).mono ?_
    rintro e w6 ⟨rfl, rfl⟩
    refine hK.out _ _ (HK.out V (Below.refl _ _)) (fun hHeld3 => ?_)
    clear hK K
    (try simp only [Act.put, List.getElem_toArray, List.getElem_cons_succ, List.getElem_cons_zero, List.setIfInBounds_toArray, List.set_cons_zero, List.set_cons_succ])
    refine wpAnyF_take (i := 4) (oi := _) (v := ?_) rfl (by kernel_rfl) (by kernel_rfl) (by kernel_rfl) (by kernel_rfl) (fun _ _ _ h => h) (Or.inl ⟨by rfl, ?_⟩) (by assumption) ?_
    rotate_left 1
    · intro w hSw
      (try dsimp only at hSw)
      (first | (go_simp; done) | (go_simp; with_reducible rfl))
    (try simp only [Act.put, List.getElem_toArray, List.getElem_cons_succ, List.getElem_cons_zero, List.setIfInBounds_toArray, List.set_cons_zero, List.set_cons_succ])
    refine wpAnyF_done (by kernel_rfl) ?_ _
    clear hHeld hHeld3
    by_cases hlt : d < D
    · skip
      have hlti : (d : Int) < (D : Int) := by omega
      go_upto_region 7 with (fail)
      obtain ⟨V7, hV7⟩ : ∃ V7, V7 = V.drew := ⟨_, rfl⟩
      have hbv7 : Below V.heap.size V V7 := by rw [hV7]; exact (Below.refl _ _).drew
      have HB7 := Lib.hid hbv7
      refine wp_region_F (S := fun (W : World) => W.cell? ⟨p6, 0, none⟩ = some (.int .i64 (d : Int)) ∧ W.cell? ⟨p6, 1, none⟩ = some (.int .i64 (i : Int))) [] (by kernel_rfl) (by rw [← hV7]; exact HK.out V7 hbv7) (fun hHeld => ?_)
      rw [← hV7] at hHeld ⊢
      clear hV7 hbv7
      refine wpAnyF_take (i := 0) (oi := _) (v := ?_) rfl (by kernel_rfl) (by kernel_rfl) (by kernel_rfl) (by kernel_rfl) (fun _ _ _ h => h) (Or.inl ⟨by rfl, ?_⟩) (by assumption) ?_
      rotate_left 1
      · intro w hSw
        (try dsimp only at hSw)
        (first | (go_simp; done) | (go_simp; with_reducible rfl))
      (try simp only [Act.put, List.getElem_toArray, List.getElem_cons_succ, List.getElem_cons_zero, List.setIfInBounds_toArray, List.set_cons_zero, List.set_cons_succ])
      refine wpAnyF_take (i := 1) (oi := _) (v := ?_) rfl (by kernel_rfl) (by kernel_rfl) (by kernel_rfl) (by kernel_rfl) (fun _ _ _ h => h) (Or.inl ⟨by rfl, ?_⟩) (by assumption) ?_
      rotate_left 1
      · intro w hSw
        (try dsimp only at hSw)
        (first | (go_simp; done) | (go_simp; with_reducible rfl))
      (try simp only [Act.put, List.getElem_toArray, List.getElem_cons_succ, List.getElem_cons_zero, List.setIfInBounds_toArray, List.set_cons_zero, List.set_cons_succ])
      refine wpAnyF_take (i := 2) (oi := _) (v := ?_) rfl (by kernel_rfl) (by kernel_rfl) (by kernel_rfl) (by kernel_rfl) (fun _ _ _ h => h) (Or.inl ⟨by rfl, ?_⟩) (by assumption) ?_
      rotate_left 1
      · intro w hSw
        (try dsimp only at hSw)
        (first | (go_simp; done) | (go_simp; with_reducible rfl))
      (try simp only [Act.put, List.getElem_toArray, List.getElem_cons_succ, List.getElem_cons_zero, List.setIfInBounds_toArray, List.set_cons_zero, List.set_cons_succ])
      refine wpAnyF_take (i := 3) (oi := _) (v := ?_) rfl (by kernel_rfl) (by kernel_rfl) (by kernel_rfl) (by kernel_rfl) (fun _ _ _ h => h) (Or.inl ⟨by rfl, ?_⟩) (by assumption) ?_
      rotate_left 1
      · intro w hSw
        (try dsimp only at hSw)
        (first | (go_simp; done) | (go_simp; with_reducible rfl))
      (try simp only [Act.put, List.getElem_toArray, List.getElem_cons_succ, List.getElem_cons_zero, List.setIfInBounds_toArray, List.set_cons_zero, List.set_cons_succ])
      refine wpAnyF_take (i := 4) (oi := _) (v := ?_) rfl (by kernel_rfl) (by kernel_rfl) (by kernel_rfl) (by kernel_rfl) (fun _ _ _ h => h) (Or.inl ⟨by rfl, ?_⟩) (by assumption) ?_
      rotate_left 1
      · intro w hSw
        (try dsimp only at hSw)
        (first | (go_simp; done) | (go_simp; with_reducible rfl))
      (try simp only [Act.put, List.getElem_toArray, List.getElem_cons_succ, List.getElem_cons_zero, List.setIfInBounds_toArray, List.set_cons_zero, List.set_cons_succ])
      refine wpAnyF_ready (rs := [5]) (by kernel_rfl) (by simp) ?_
      refine AllReadyF.cons (o := _) rfl (fun K hK => ?_) AllReadyF.nil
      go_simp
      (go_at_call 30)
      refine (beside_any d i hi9 V7).mono ?_
      rintro e w8 ⟨rfl, hb8⟩
      have HB8 := Lib.hid (HB7.out.trans (hb8.mono HB7.out.size))
      clear hb8
      refine hK.out _ _ (HK.out _ HB8.out) (fun hHeld5 => ?_)
      clear hK K
      (try simp only [Act.put, List.getElem_toArray, List.getElem_cons_succ, List.getElem_cons_zero, List.setIfInBounds_toArray, List.set_cons_zero, List.set_cons_succ])
      refine wpAnyF_ready (rs := [6]) (by kernel_rfl) (by simp) ?_
      refine AllReadyF.cons (o := _) rfl (fun K hK => ?_) AllReadyF.nil
      go_simp
      (go_at_call 24)
      have hbi1 : bsN i ≤ i + 1 := by
        unfold bsN
        split <;> omega
      have hbi : ((bsN i : Nat) : Int) ≤ 9223372036854775807 := by omega
      refine (tnode_any T b n D lb cap (d : Int) (bsN i : Int) q F w8 (HTV.out.next HB8.out) hbi).mono ?_
      rintro e w9 ⟨rfl, hb9⟩
      have hbs : bsN i < 2 ^ (D - d) := by
        have e1 : D - d = (D - d - 1) + 1 := by omega
        rw [e1]
        refine bsN_lt ?_
        rw [← e1, HI.out, Nat.div_lt_iff_lt_mul (Nat.two_pow_pos _), ← Nat.pow_add, show D - d + d = D by omega]
        exact hkD
      rw [nodeK_in (by omega) hbs]
      have HB9 := Lib.hid (HB8.out.trans (hb9.mono HB8.out.size))
      obtain ⟨xd, hxd⟩ : ∃ xd, xd = dA (F d (bsN i)) := ⟨_, rfl⟩
      have HX2 : Hid (xd.size = 32) := Lib.hid (by rw [hxd, rowV_size])
      have HXO : Hid (xd.all (·.oneCell') = true) := Lib.hid (by rw [hxd]; exact dA_one _)
      have HXD : Hid (flatD (psF F k) d ++ xd.toList = flatD (psF F k) (d + 1)) := Lib.hid (by rw [flatD_snoc, hxd]; unfold psF; rw [← HI.out])
      rw [← hxd]
      clear hb9 hxd hbs hbi hbi1
      refine hK.out _ _ (HK.out _ HB9.out) (fun hHeld6 => ?_)
      clear hK K
      (try simp only [Act.put, List.getElem_toArray, List.getElem_cons_succ, List.getElem_cons_zero, List.setIfInBounds_toArray, List.set_cons_zero, List.set_cons_succ])
      refine wpAnyF_ready (rs := [7]) (by kernel_rfl) (by simp) ?_
      refine AllReadyF.cons (o := _) rfl (fun K hK => ?_) AllReadyF.nil
      rw [if_pos (by kernel_rfl)]
      refine step_bd1 (.tmp 29) rfl xd HX2.out (by simp [Act.eval, Act.put]) ?_
      have hba : Below w9.heap.size w9 (w9.alloc (.cells xd DgT)) := (Below.refl _ _).alloc (Nat.le_refl _) _
      have HBA := Lib.hid (HB9.out.trans (hba.mono HB9.out.size))
      have HNA := Lib.hid (heap_alloc_new w9 (.cells xd DgT))
      clear hba
      refine hK.out _ _ (HK.out _ HBA.out) (fun hHeld7 => ?_)
      clear hK K
      (try simp only [Act.put, List.getElem_toArray, List.getElem_cons_succ, List.getElem_cons_zero, List.setIfInBounds_toArray, List.set_cons_zero, List.set_cons_succ])
      generalize w9.alloc (.cells xd DgT) = wa at *
      have HOA : Hid (wa.ownsRow w.heap.size DgT 32 u5 d (flatD (psF F k) d)) := Lib.hid (own_keepH HOV.out (fun g hg => HBA.out.block g (World.ownsRow.lt HOV.out g hg).2))
      have HPA := Lib.hid ((HBA.out.block _ (blk_lt HPV.out)).trans HPV.out)
      have HBWA := Lib.hid (HBV.out.trans (HBA.out.mono HBV.out.size))
      refine wpAnyF_ready (rs := [8]) (by kernel_rfl) (by simp) ?_
      refine AllReadyF.cons (o := _) rfl (fun K hK => ?_) AllReadyF.nil
      rw [if_pos (by kernel_rfl)]
      refine step_apD wa (.tmp 23) (.tmp 30) rfl w.heap.size u5 d (flatD (psF F k) d) xd HX2.out HXO.out rfl HOA.out w9.heap.size HNA.out rfl (by omega) HBWA.out.size ?_
      intro v' w1 hown1 hb1 hfar
      rw [HXD.out] at hown1
      have HO1 := Lib.hid hown1
      have HB1 := Lib.hid (HBWA.out.trans hb1)
      have hp1 := (hfar p6 (blk_lt HPA.out) (own_far HOA.out HPA.out (by decide))).trans HPA.out
      have HP1 := Lib.hid hp1
      clear hown1 hb1 hfar
      refine hK.out _ _ (⟨blk_cell hp1 0, blk_cell hp1 1⟩) (fun hHeld8 => ?_)
      clear hK K
      (try simp only [Act.put, List.getElem_toArray, List.getElem_cons_succ, List.getElem_cons_zero, List.setIfInBounds_toArray, List.set_cons_zero, List.set_cons_succ])
      clear hp1
      refine wpAnyF_take (i := 9) (oi := _) (v := ?_) rfl (by kernel_rfl) (by kernel_rfl) (by kernel_rfl) (by kernel_rfl) (fun _ _ _ h => h) (Or.inl ⟨by rfl, ?_⟩) (by assumption) ?_
      rotate_left 1
      · intro w hSw
        (try dsimp only at hSw)
        (first | (go_simp; done) | (go_simp; with_reducible rfl))
      (try simp only [Act.put, List.getElem_toArray, List.getElem_cons_succ, List.getElem_cons_zero, List.setIfInBounds_toArray, List.set_cons_zero, List.set_cons_succ])
      refine wpAnyF_done (by kernel_rfl) ?_ _
      clear hHeld hHeld5 hHeld6 hHeld7 hHeld8
      have y0 := blk_cell HP1.out 0
      have y1 := blk_cell HP1.out 1
      have hx11 := heap_alloc_new w1 (.cells #[.int .i64 (d : Int), .int .i64 (i : Int)] 61)
      have hb11 : Below w1.heap.size w1 (w1.alloc (.cells #[.int .i64 (d : Int), .int .i64 (i : Int)] 61)) := (Below.refl _ _).alloc (Nat.le_refl _) _
      go_wp2_with fail
      have HX11 := Lib.hid hx11
      have HB11 := Lib.hid hb11
      have HL1 : Hid (w1.heap.size < (w1.alloc (.cells #[.int .i64 (d : Int), .int .i64 (i : Int)] 61)).heap.size) := Lib.hid (by simp)
      clear hx11 hb11 y0 y1
      generalize w1.alloc (.cells #[.int .i64 (d : Int), .int .i64 (i : Int)] 61) = w11 at *
      obtain ⟨p', hp'⟩ : ∃ p', p' = w1.heap.size := ⟨_, rfl⟩
      rw [← hp'] at HX11 HL1 ⊢
      have HPP := Lib.hid hp'
      clear hp'
      refine (above_any d i (by omega) hi9 w11).mono ?_
      rintro e w12 ⟨rfl, hb12⟩
      have hx12 := (hb12.block _ HL1.out).trans HX11.out
      have HX12 := Lib.hid hx12
      have HB12 := Lib.hid (HB11.out.trans (hb12.mono HB11.out.size))
      have y0 := blk_cell hx12 0
      have y1 := blk_cell hx12 1
      have y2 := blk_free hx12 0
      have y3 := blk_free hx12 1
      have HREL : Hid (PaR w T b n D lb cap k q F (D - (d + 1)) v' (.pointer (some ⟨p', 0, none⟩)) ((w12.setCell ⟨p', 0, none⟩ (.int .i64 ((d + 1 : Nat) : Int))).setCell ⟨p', 1, none⟩ (.int .i64 ((i / 2 : Nat) : Int)))) := Lib.hid ⟨d + 1, p', by omega, rfl, own_keepH HO1.out (fun g hg => by
          have hg1 := (World.ownsRow.lt HO1.out g hg).2
          have hne : g ≠ p' := by rw [HPP.out]; omega
          exact ((Below.heap_setCell _ _ _ g hne).trans (Below.heap_setCell _ _ _ g hne)).trans (HB12.out.block g hg1)), by
          have hz := blk_set (blk_set HX12.out 0 (.int .i64 ((d + 1 : Nat) : Int))) 1 (.int .i64 ((i / 2 : Nat) : Int))
          rw [show k / 2 ^ (d + 1) = i / 2 by rw [HI.out, Nat.pow_succ, Nat.div_div_eq_div_mul]]
          simpa using hz, by rw [HPP.out]; exact HB1.out.size, ((HB1.out.trans (HB12.out.mono HB1.out.size)).setCell (p := ⟨p', 0, none⟩) (by show w.heap.size ≤ p'; rw [HPP.out]; exact HB1.out.size) _).setCell (p := ⟨p', 1, none⟩) (by show w.heap.size ≤ p'; rw [HPP.out]; exact HB1.out.size) _⟩
      clear hb12 hx12
      generalize ((d + 1 : Nat) : Int) = d1 at *
      generalize ((i / 2 : Nat) : Int) = i1 at *
      go_wp2_with fail
      go_roundg (D - (d + 1))
      case measure => omega
      case rel => exact HREL.out
    · have hdD : d = D := by omega
      have HE : Hid (PthTo w D (psF F k) (.returned u5) V) := Lib.hid (pth_end (by rw [← hdD]; exact HOV.out) HBV.out (fun d => HTR.out.dig _ _))
      go_wp2_with fail
      go_ret
      exact HE.out
end
section
open Go.RowKit Go
set_option linter.unusedVariables false
set_option linter.unusedSimpArgs false
theorem tn_none (w : World) : Calls Tryz.prog 22 #[.pointer none] w fun e w' => e = .returned (.bool true) ∧ w = w' := by
  go_enter Tryz.func22, Tryz.ntmps22
  go_wp2
  go_ret
  exact ⟨rfl, rfl⟩
theorem len_nilT (w : World) : Calls Tryz.prog 21 #[.pointer none] w fun e w' => e = .returned (.int .i64 0) ∧ w = w' := by
  go_enter Tryz.func21, Tryz.ntmps21
  go_wp2_with fail
  refine (tn_none _).mono ?_
  rintro e w' ⟨rfl, rfl⟩
  go_wp2
  go_ret
  exact ⟨rfl, rfl⟩
theorem depth_nilT (w : World) : Calls Tryz.prog 25 #[.pointer none] w fun e w' => e = .returned (.int .i64 0) ∧ w = w' := by
  go_enter Tryz.func25, Tryz.ntmps25
  go_wp2_with fail
  refine (tn_none _).mono ?_
  rintro e w' ⟨rfl, rfl⟩
  go_wp2
  go_ret
  exact ⟨rfl, rfl⟩
theorem set_nilT (A : Option Addr) (n c : Nat) (w : World) : Calls Tryz.prog 10 #[.pointer none, .slice A n c] w fun e w' => e = .returned (.tuple #[.int .i64 0, .int .i64 2]) ∧ w = w' := by
  go_enter Tryz.func10, Tryz.ntmps10
  go_wp2_with fail
  refine (tn_none _).mono ?_
  rintro e w' ⟨rfl, rfl⟩
  go_wp2
  exact bodyPost_ret (v := .tuple #[.int .i64 0, .int .i64 2]) (by simp [results, Tryz.results10, go_sem]) rfl ⟨rfl, rfl⟩
theorem new_nilT (A : Option Addr) (n c : Nat) (w : World) : Calls Tryz.prog 5 #[.pointer none, .slice A n c] w fun e w' => e = .returned (.tuple #[.pointer none, .int .i64 2]) ∧ w = w' := by
  go_enter Tryz.func5, Tryz.ntmps5
  go_wp2
  exact bodyPost_ret (v := .tuple #[.pointer none, .int .i64 2]) (by simp [results, Tryz.results5, go_sem]) rfl ⟨rfl, rfl⟩
theorem has_nilT (k : Int) (w : World) : Calls Tryz.prog 28 #[.pointer none, .int .i64 k] w fun e w' => e = .returned (.bool false) ∧ w = w' := by
  go_enter Tryz.func28, Tryz.ntmps28
  by_cases h : 0 ≤ k
  · go_wp2_with fail
    refine (len_nilT _).mono ?_
    rintro e w' ⟨rfl, rfl⟩
    go_wp2
    go_ret
    exact ⟨ret_bool (by simp; try omega), rfl⟩
  · go_wp2
    go_ret
    exact ⟨rfl, rfl⟩
theorem path_nilT (k : Int) (w : World) : Calls Tryz.prog 13 #[.pointer none, .int .i64 k] w fun e w' => e = .returned (.slice none 0 0) ∧ w = w' := by
  go_enter Tryz.func13, Tryz.ntmps13
  go_wp2_with fail
  refine (has_nilT k _).mono ?_
  rintro e w' ⟨rfl, rfl⟩
  go_wp2
  go_ret
  exact ⟨rfl, rfl⟩
set_option maxRecDepth 100000 in
theorem node_nilT (d k : Int) (w : World) : Calls Tryz.prog 24 #[.pointer none, .int .i64 d, .int .i64 k] w fun e w' => e = .returned (.agg (zeros 32)) ∧ Below w.heap.size w w' := by
  have hz := zero_dig
  have hb1 : Below w.heap.size w (w.alloc (.cells (zeros 32) DgT)) := (Below.refl _ _).alloc (Nat.le_refl _) _
  have HX := Lib.hid (heap_alloc_new w (.cells (zeros 32) DgT))
  have HI := Lib.hid (info_dig (cs := zeros 32) (by simp [zeros]))
  have HO : Hid ((zeros 32).all (·.oneCell') = true) := Lib.hid (by kernel_rfl)
  have HFX := Lib.hid (setRow_heap _ _ _ (zeros 32) _ _ (heap_alloc_new w (.cells (zeros 32) DgT)))
  have HFB := Lib.hid (below_setRow (g := w.heap.size) hb1 (Nat.le_refl _) (zeros 32))
  clear hb1
  go_enter Tryz.func24, Tryz.ntmps24
  go_wp2_with fail
  refine (tn_none _).mono ?_
  rintro e w' ⟨rfl, rfl⟩
  go_wp2_with (with_reducible refine wpList_store_row rfl DgT (.tmp 6) (.tmp 35) rfl _ _ rfl rfl DgT _ HX.out HI.out rfl HO.out ?_)
  exact bodyPost_ret (v := .agg (zeros 32)) (results_cell_row rfl _ _ _ DgT _ (0, 0) _ rfl HFX.out Tryz.underlying34 rfl HI.out) rfl ⟨rfl, HFB.out⟩
set_option maxRecDepth 100000 in
theorem root_nilT (w : World) : Calls Tryz.prog 9 #[.pointer none] w fun e w' => e = .returned (.agg (zeros 32)) ∧ Below w.heap.size w w' := by
  have hz := zero_dig
  have hb1 : Below w.heap.size w (w.alloc (.cells (zeros 32) DgT)) := (Below.refl _ _).alloc (Nat.le_refl _) _
  have HX := Lib.hid (heap_alloc_new w (.cells (zeros 32) DgT))
  have HI := Lib.hid (info_dig (cs := zeros 32) (by simp [zeros]))
  have HO : Hid ((zeros 32).all (·.oneCell') = true) := Lib.hid (by kernel_rfl)
  have HFX := Lib.hid (setRow_heap _ _ _ (zeros 32) _ _ (heap_alloc_new w (.cells (zeros 32) DgT)))
  have HFB := Lib.hid (below_setRow (g := w.heap.size) hb1 (Nat.le_refl _) (zeros 32))
  clear hb1
  go_enter Tryz.func9, Tryz.ntmps9
  go_wp2_with fail
  refine (tn_none _).mono ?_
  rintro e w' ⟨rfl, rfl⟩
  go_wp2_with (with_reducible refine wpList_store_row rfl DgT (.tmp 2) (.tmp 5) rfl _ _ rfl rfl DgT _ HX.out HI.out rfl HO.out ?_)
  exact bodyPost_ret (v := .agg (zeros 32)) (results_cell_row rfl _ _ _ DgT _ (0, 0) _ rfl HFX.out Tryz.underlying34 rfl HI.out) rfl ⟨rfl, HFB.out⟩
set_option maxRecDepth 100000 in
theorem at_nilT (k : Int) (w : World) : Calls Tryz.prog 11 #[.pointer none, .int .i64 k] w fun e w' => e = .returned (.agg (zeros 32)) ∧ Below w.heap.size w w' := by
  have hz := zero_dig
  obtain ⟨W0, hW0⟩ : ∃ W0, W0 = w.alloc (.cells (zeros 32) DgT) := ⟨_, rfl⟩
  have hb1 : Below w.heap.size w W0 := by rw [hW0]; exact (Below.refl _ _).alloc (Nat.le_refl _) _
  have HX : Hid (W0.heap[w.heap.size]? = some (.cells (zeros 32) DgT (0, 0))) := Lib.hid (by rw [hW0]; exact heap_alloc_new w _)
  have HB1 := Lib.hid hb1
  have HI := Lib.hid (info_dig (cs := zeros 32) (by simp [zeros]))
  have HO : Hid ((zeros 32).all (·.oneCell') = true) := Lib.hid (by kernel_rfl)
  have HW0 := Lib.hid hW0
  clear hb1 hW0
  go_enter Tryz.func11, Tryz.ntmps11
  go_wp2_with fail
  rw [← HW0.out]
  refine (node_nilT 0 k W0).mono ?_
  rintro e w3 ⟨rfl, hb4⟩
  have HX4 : Hid (w3.heap[w.heap.size]? = some (.cells (zeros 32) DgT (0, 0))) := Lib.hid ((hb4.block _ (blk_lt HX.out)).trans HX.out)
  have HFX := Lib.hid (setRow_heap _ _ _ (zeros 32) _ _ HX4.out)
  have HFB := Lib.hid (below_setRow (g := w.heap.size) (HB1.out.trans (hb4.mono HB1.out.size)) (Nat.le_refl _) (zeros 32))
  clear hb4
  go_wp2_with (with_reducible refine wpList_store_row rfl DgT (.tmp 4) (.tmp 7) rfl _ _ rfl rfl DgT _ HX4.out HI.out rfl HO.out ?_)
  exact bodyPost_ret (v := .agg (zeros 32)) (results_cell_row rfl _ _ _ DgT _ (0, 0) _ rfl HFX.out Tryz.underlying34 rfl HI.out) rfl ⟨rfl, HFB.out⟩
theorem zero32_cellsN : dA zero32L = zeros 32 := by kernel_rfl
abbrev LfX : TypeId := 40
def lfX (k : Int) : Array Value := rowV (fun i => if i = 0 then .int .i64 k else .int .u8 0) 33
theorem lfx_info : (Tryz.prog.info? LfX).map (fun i => (i.zero, i.size, i.bytes)) = some (some (.agg (lfX 0)), 33, 40) := by kernel_rfl
theorem wp_build_eq9 {P : Program} {ops : Array Oper} {rest : List Oper} {o : Oper} {a : Act} {w : World} {Q : Exit → Act → World → Prop} (hg : o.guard = none) (t : TypeId) (parts : Array (Nat × Operand)) (ho : o.op = .build t parts)
    (cs : Array Value) (hf : P.built t (parts.map fun (i, x) => (i, a.eval x)).toList = some cs) (h : wpList P ops Q rest (a.put o.dst (.agg cs)) w) : wpList P ops Q (o :: rest) a w := by
  refine wpList_build hg t parts ho (by rw [hf]; rfl) ?_
  rw [hf]
  exact h
theorem lfx_built (k : Int) : Tryz.prog.built LfX [(0, .int .i64 k)] = some (lfX k) := by kernel_rfl
theorem fill_lfx (xd : Array Value) (hx : xd.size = 33) : Instr.fill (fun i => some (i * 33, 33)) ((Array.range (1 * 33)).map ((Value.agg (lfX 0)).cells[· % (Value.agg (lfX 0)).cells.size]!)) [(0, .agg xd)] = some xd := by
  have h := Go.Great.fill_whole (s := 33) (by omega) [.agg xd] ((Array.range (1 * 33)).map ((Value.agg (lfX 0)).cells[· % (Value.agg (lfX 0)).cells.size]!)) (fun v hv => by
    have e : v = .agg xd := by simpa using hv
    rw [e]; exact hx) (by simp)
  have e1 : (([Value.agg xd].flatMap fun v => v.cells.toList).toArray) = xd := by simp [Value.cells]
  rw [e1] at h
  exact h
theorem fill_dgx (xd : Array Value) (hx : xd.size = 32) : Instr.fill (fun i => some (i * 32, 32)) ((Array.range (1 * 32)).map ((Value.agg (zeros 32)).cells[· % (Value.agg (zeros 32)).cells.size]!)) [(0, .agg xd)] = some xd := by
  have h := Go.Great.fill_whole (s := 32) (by omega) [.agg xd] ((Array.range (1 * 32)).map ((Value.agg (zeros 32)).cells[· % (Value.agg (zeros 32)).cells.size]!)) (fun v hv => by
    have e : v = .agg xd := by simpa using hv
    rw [e]; exact hx) (by simp)
  have e1 : (([Value.agg xd].flatMap fun v => v.cells.toList).toArray) = xd := by simp [Value.cells]
  rw [e1] at h
  exact h
theorem wpList_buildL {ops : Array Oper} {rest : List Oper} {o : Oper} {a : Act} {w : World} {Q : Exit → Act → World → Prop} (hg : o.guard = none) (x : Operand) (ho : o.op = .buildSlice 49 1 #[(0, x)]) (xd : Array Value) (hx2 : xd.size = 33) (hx : a.eval x = .agg xd)
    (h : wpList Tryz.prog ops Q rest (a.put o.dst (.slice (some ⟨w.heap.size, 0, none⟩) 1 1)) (w.alloc (.cells xd LfX))) : wpList Tryz.prog ops Q (o :: rest) a w := by
  obtain ⟨ie, h0, h1, h2, h3⟩ := info_parts lfx_info
  refine wpList_buildSlice hg 49 LfX 1 #[(0, x)] ho xd ie _ Tryz.underlying49 h0 h1 (by rw [h2]; omega) (by rw [h2]; omega) ?_ h
  rw [h2]
  simp only [List.map_toArray, List.map_cons, List.map_nil, hx]
  exact fill_lfx xd hx2
theorem wpList_buildD {ops : Array Oper} {rest : List Oper} {o : Oper} {a : Act} {w : World} {Q : Exit → Act → World → Prop} (hg : o.guard = none) (x : Operand) (ho : o.op = .buildSlice 30 1 #[(0, x)]) (xd : Array Value) (hx2 : xd.size = 32) (hx : a.eval x = .agg xd)
    (h : wpList Tryz.prog ops Q rest (a.put o.dst (.slice (some ⟨w.heap.size, 0, none⟩) 1 1)) (w.alloc (.cells xd DgT))) : wpList Tryz.prog ops Q (o :: rest) a w := by
  obtain ⟨ie, h0, h1, h2, h3⟩ := info_parts dg_info
  refine wpList_buildSlice hg 30 DgT 1 #[(0, x)] ho xd ie _ Tryz.underlying30 h0 h1 (by rw [h2]; omega) (by rw [h2]; omega) ?_ h
  rw [h2]
  simp only [List.map_toArray, List.map_cons, List.map_nil, hx]
  exact fill_dgx xd hx2
end
section
open Go.RowKit Go
set_option linter.unusedVariables false
set_option linter.unusedSimpArgs false
def JMid (D c : Nat) (es : List En) : Prop := (es = [] ∧ c = D) ∨ ∃ e, es = [e] ∧ c = e.n.toNat - 1
theorem JMid.done {D c : Nat} (h : JMid D c []) : c = D := by
  rcases h with ⟨_, h⟩ | ⟨e, h, _⟩
  · exact h
  · cases h
theorem JMid.pop {D c : Nat} {es es' : List En} {x : En} (h : JMid D c es) (hp : es.Perm (x :: es')) : es' = [] ∧ c = x.n.toNat - 1 := by
  rcases h with ⟨h, _⟩ | ⟨e, h, hc⟩
  · subst h
    have := hp.length_eq
    simp at this
  · subst h
    have h1 := hp.length_eq
    simp at h1
    have h2 := hp.mem_iff.2 (List.mem_cons_self ..)
    have h3 := List.mem_singleton.1 h2
    exact ⟨h1, by rw [hc, h3]⟩
theorem JMid.push {D c l : Nat} {i : Int} {t : Nat} {es' : List En} (hp : es'.Perm [⟨((l + 1 : Nat) : Int), i, t⟩]) (hc : c = l) : JMid D c es' := by
  refine .inr ⟨_, List.perm_singleton.1 hp, ?_⟩
  show c = ((l + 1 : Nat) : Int).toNat - 1
  omega
theorem first_pop {ks : Nat → Nat} {j : Nat} {es es' : List En} {x : En} (hj : j = 1) (hl : es.length = j) (h : Es1 ks j es) (hp : es.Perm (x :: es')) : es' = [] ∧ x.n = 0 := by
  have h1 := hp.length_eq
  simp at h1
  obtain ⟨i, _, h3, _⟩ := h.1 x (hp.mem_iff.2 (List.mem_cons_self ..))
  exact ⟨List.length_eq_zero_iff.1 (by omega), h3⟩
/-- what put leaves -/
def PutOne (w : World) (T b g n D lb cap m : Nat) (q : Nat → Nat) (F : Nat → Nat → List Nat) (ks : Nat → Nat) (xs : Nat → List Nat) (S : Nat → Prop) (e : Ending) (w' : World) : Prop :=
  ∃ (F' : Nat → Nat → List Nat) (S' : Nat → Prop) (Tx sh : List (List Nat)), e = .returned (.int .i64 (D : Int)) ∧ TrB w' T b n D lb cap q F' ∧ (∀ d i, d + 1 ≤ D → i < 2 ^ (D - (d + 1)) → Right F' d i) ∧ (∀ i, F' 0 i = leafF F ks xs m 0 i) ∧
    IsBook w' b g S' Tx sh ∧ (∀ j, S' j → S j ∨ w.heap.size ≤ j) ∧ (∀ j, trS T lb D q j → ¬ S' j) ∧ Turns (fun j => S j ∨ ∃ d, d ≤ D ∧ j = q d) w w'
def Lp3 (w : World) (T b g n D lb cap : Nat) (q : Nat → Nat) (S : Nat → Prop) (qg : Nat) (X : World → (Nat → Prop) → Prop) (f0 : Nat → List Nat) (gk : Nat) (v9 v10 v6 : Value) (W : World) : Prop :=
  ∃ c : Nat, v6 = .int .i64 (c : Int) ∧ c + gk ≤ 100000 ∧ ((v10 = .bool false ∧ (∃ a, v9 = .pointer a) ∧ ∃ t F', Pu w T b g n D lb cap q S qg X F' [] t W ∧ Good D F' [] ∧ (∀ i, F' 0 i = f0 i) ∧ c = D) ∨
    (v10 = .bool true ∧ ∃ (p l i tt t : Nat) (es : List En) (F' : Nat → Nat → List Nat), v9 = .pointer (some ⟨p, 0, none⟩) ∧ Pu w T b g n D lb cap q S qg (fun W F => X W F ∧ blkX p (.cells #[.int .i64 (l : Int), .int .i64 (i : Int)] 61 (0, 0)) W F) F' es t W ∧ Good D F' (⟨(l : Int), (i : Int), tt⟩ :: es) ∧
      FitE D ⟨(l : Int), (i : Int), tt⟩ ∧ (∀ e ∈ es, FitE D e) ∧ (∀ i, F' 0 i = f0 i) ∧ weight D (⟨(l : Int), (i : Int), tt⟩ :: es) ≤ gk ∧ t + gk ≤ 100000 ∧ es = [] ∧ c = l - 1))
def Mid3 (w : World) (T b g n D lb cap : Nat) (q : Nat → Nat) (S : Nat → Prop) (qg : Nat) (X : World → (Nat → Prop) → Prop) (f0 : Nat → List Nat) (gk p l i : Nat) (v6 : Value) (W : World) : Prop :=
  ∃ c : Nat, v6 = .int .i64 (c : Int) ∧ c + gk ≤ 100001 ∧ ∃ (t : Nat) (es : List En) (F' : Nat → Nat → List Nat), Pu w T b g n D lb cap q S qg (fun W F => X W F ∧ blkX p (.cells #[.int .i64 (l : Int), .int .i64 (i : Int)] 61 (0, 0)) W F) F' es t W ∧ Good D F' es ∧
    (∀ e ∈ es, FitE D e) ∧ (∀ i, F' 0 i = f0 i) ∧ weight D es + 1 ≤ gk ∧ t + gk ≤ 100001 ∧ JMid D c es
def Rk3 (w : World) (T b g n D lb cap : Nat) (q : Nat → Nat) (S : Nat → Prop) (qg : Nat) (X : World → (Nat → Prop) → Prop) (f0 : Nat → List Nat) (c p l i tt t : Nat) (es : List En) (v6 : Value) (W : World) : Prop :=
  ∃ c' : Nat, v6 = .int .i64 (c' : Int) ∧ c' ≤ c + 1 ∧ c' = l ∧ ∃ F' : Nat → Nat → List Nat, Pu w T b g n D lb cap q S qg (fun W F => X W F ∧ blkX p (.cells #[.int .i64 (l : Int), .int .i64 (i : Int)] 61 (0, 0)) W F) F' es t W ∧
    (∀ d i', d + 1 ≤ D → i' < 2 ^ (D - (d + 1)) → (d + 1, i') ≠ (l, i) → Right F' d i' ∨ Dirt (⟨(l : Int), (i : Int), tt⟩ :: es) (d + 1) i') ∧ (∀ d, l = d + 1 → Right F' d i) ∧ ∀ i', F' 0 i' = f0 i'
set_option maxHeartbeats 8000000 in
set_option maxRecDepth 100000 in
theorem tput_one (T b g n D lb cap lk o m cL : Nat) (q : Nat → Nat) (F : Nat → Nat → List Nat) (ks : Nat → Nat) (xs : Nat → List Nat) (S : Nat → Prop) (Tx sh : List (List Nat)) (w : World) (h : TrB w T b n D lb cap q F) (hbk : IsBook w b g S Tx sh) (hap : ∀ j, trS T lb D q j → ¬ S j)
    (hlv : ∀ j, j < m → w.rangeAt lk (o + j * 33) (lfL (ks j) (xs j))) (hlk : lk < w.heap.size ∧ ¬ S lk ∧ ∀ d, d ≤ D → lk ≠ q d) (hm : m ≤ 1024) (hm1 : m = 1) (hmc : m ≤ cL) (hks : ∀ j, j < m → ks j < 2 ^ D) (hxs : ∀ j, j < m → IsDig (xs j))
    (hg : ∀ d i, d + 1 ≤ D → i < 2 ^ (D - (d + 1)) → Right F d i ∨ ∃ j, j < m ∧ i = ks j / 2 ^ (d + 1)) :
    Calls Tryz.prog 16 #[.pointer (some ⟨T, 0, none⟩), .slice (some ⟨lk, o, none⟩) m cL] w (PutOne w T b g n D lb cap m q F ks xs S) := by
  have HNQ := Lib.hid (newq_any w)
  have hzp : ∀ W, (zeroValue 61).run Tryz.prog W = .ok (.agg #[.int .i64 0, .int .i64 0]) W := fun _ => by kernel_rfl
  obtain ⟨zz, hzz⟩ : ∃ z, z = rowV lfZ 33 := ⟨_, rfl⟩
  have hzo := zero_lf
  rw [← hzz] at hzo
  have HZZ : Hid (zz.size = 33) := Lib.hid (by rw [hzz, rowV_size])
  have HH := Lib.hid h
  have HBK := Lib.hid hbk
  have HAP := Lib.hid hap
  have HLV := Lib.hid hlv
  have HLK := Lib.hid hlk
  have HKS := Lib.hid hks
  have HXS := Lib.hid hxs
  have HG := Lib.hid hg
  have hDD := h.D5
  have HD10 : Hid (D ≤ 10) := Lib.hid hDD
  have hcapp := h.capD
  clear h hbk hap hlv hlk hks hxs hg hzz
  go_enter Tryz.func16, Tryz.ntmps16
  go_wp2_with fail
  refine HNQ.out.mono ?_
  rintro e w1 ⟨rfl, hqu, hb1⟩
  have hst : Pu w T b g n D lb cap q S w.heap.size (lvX lk o m ks xs) F [] 0 w1 := ⟨.slice none 0 0, S, Tx, sh, HH.out.next hb1, HBK.out.below hb1, hqu, fun k _ hk => by simp at hk, fun j hj => .inl hj, fun j hj => ⟨HAP.out j hj, HH.out.lt hj⟩, ⟨Nat.le_refl _, fun j hj => by simp [Value.ownBlock] at hj⟩, ⟨fun c => by have := HBK.out.sub c; omega, fun j hj => by simp [Value.ownBlock] at hj⟩, Turns.of_below hb1,
    ⟨fun j hj => range_of (hb1.block _ HLK.out.1) (HLV.out j hj), fun c => by
      rcases c with c | c | c | ⟨d, hd, c⟩
      · exact HLK.out.2.1 c
      · have := HLK.out.1; omega
      · simp [Value.ownBlock] at c
      · exact HLK.out.2.2 d hd c, Nat.lt_of_lt_of_le HLK.out.1 hb1.size⟩⟩
  have HST := Lib.hid hst
  obtain ⟨qg, hqg⟩ : ∃ qg, qg = w.heap.size := ⟨_, rfl⟩
  rw [← hqg] at HST
  rw [← hqg]
  clear hst hqu hb1 hqg HNQ
  go_wp2_with fail
  go_loopg [16] m (fun gk iv W => ∃ (j : Nat) (es : List En), iv = .int .i64 (j : Int) ∧ j + gk = m ∧ Pu w T b g n D lb cap q S qg (lvX lk o m ks xs) (leafF F ks xs j) es j W ∧ es.length = j ∧ Es1 ks j es)
  case atStart => exact ⟨0, [], rfl, by omega, HST.out, rfl, ⟨fun e he => (by cases he), fun i hi => by omega⟩⟩
  case round =>
    obtain ⟨j, es, rfl, hjm, hpu, hel, hes⟩ := hrel
    have HPU := Lib.hid hpu
    have HES := Lib.hid hes
    have HEL := Lib.hid hel
    clear hpu hes hel HST
    by_cases hlt : j < m
    · have hxr := HPU.out.x
      obtain ⟨G0, hrg, _, _⟩ := hxr
      obtain ⟨cs, hcs⟩ : ∃ cs, cs = lfL (ks j) (xs j) := ⟨_, rfl⟩
      have HCS := Lib.hid hcs
      have HRG : Hid (wr.rangeAt lk (o + j * 33) cs) := Lib.hid (by rw [hcs]; exact hrg j hlt)
      have HIL : Hid ((Tryz.prog.info? LfT).map (·.size) = some cs.length) := Lib.hid (by rw [hcs, lfL_len]; exact info_lf)
      have HIA : Hid ((Tryz.prog.info? LfT).map (·.size) = some cs.toArray.size) := Lib.hid (by rw [List.size_toArray, hcs, lfL_len]; exact info_lf)
      have HSZ8 : Hid (zz.size = cs.toArray.size) := Lib.hid (HZZ.out.trans (by rw [List.size_toArray, hcs, lfL_len]))
      have HON8 : Hid (cs.toArray.all (·.oneCell') = true) := Lib.hid (by rw [hcs]; exact all_oneCell_toArray (lfL_one _ _))
      have ho8 := heap_alloc_new wr (.cells zz LfT)
      have HO8 := Lib.hid ho8
      obtain ⟨V8, hV8⟩ : ∃ V8, V8 = (wr.alloc (.cells zz LfT)).setRow wr.heap.size cs.toArray := ⟨_, rfl⟩
      have hb8 : Below wr.heap.size wr V8 := by rw [hV8]; exact below_setRow (g := wr.heap.size) ((Below.refl _ _).alloc (Nat.le_refl _) _) (Nat.le_refl _) cs.toArray
      have hp8 : V8.heap[wr.heap.size]? = some (.cells cs.toArray LfT (0, 0)) := by rw [hV8]; exact setRow_heap _ _ _ cs.toArray _ _ ho8
      have HV8 := Lib.hid hV8
      have hpu8 := HPU.out.more kept_lv hb8 (Nat.le_refl _) hp8
      obtain ⟨p8, hp8e⟩ : ∃ p, p = wr.heap.size := ⟨_, rfl⟩
      have HP8E := Lib.hid hp8e
      rw [← hp8e] at hpu8 hp8
      have htr8 := hpu8.tr
      have HPU8 := Lib.hid hpu8
      have HK2 := Lib.hid htr8.c2
      have HKR : Hid (V8.cell? ⟨lb, 0, none⟩ = some (.slice (some ⟨q 0, 0, none⟩) (2 ^ D) (2 ^ D))) := Lib.hid (by have := htr8.row 0 (Nat.zero_le _); rw [Nat.sub_zero] at this; exact this)
      have HP80 : Hid (V8.cell? ⟨p8, 0, none⟩ = some (.int .i64 (ks j : Int))) := Lib.hid ((blk_cell hp8 0).trans (by rw [hcs]; rfl))
      obtain ⟨xd, hxd⟩ : ∃ z, z = dA (xs j) := ⟨_, rfl⟩
      have hxs2 : xd.size = 32 := by rw [hxd, rowV_size]
      have HIX := Lib.hid (info_dig hxs2)
      have HOX : Hid (xd.all (·.oneCell') = true) := Lib.hid (by rw [hxd]; exact dA_one _)
      have HXR : Hid (∀ W, Same4 V8 T lb p8 p8 W → W.rangeAt p8 1 xd.toList) := Lib.hid (fun W hW => range_of hW.2.2.1 (fun k v hv => by
        rw [blk_cell hp8, hcs, List.getElem?_toArray, lfL, Nat.add_comm 1 k, List.getElem?_cons_succ, ← hxd]; exact hv))
      have hkl := HKS.out j hlt
      have hk0 : (0 : Int) ≤ (ks j : Int) := by omega
      have hkl2 : ((ks j : Nat) : Int) < 2 ^ D := by exact_mod_cast hkl
      have HTH : Hid (V8.drew.there (q 0) (ks j * 32) xd.size) := Lib.hid (by rw [hxs2]; exact htr8.there (d := 0) (Nat.zero_le _) (by rw [Nat.sub_zero]; exact hkl))
      have HNE5 : Hid (T ≠ q 0 ∧ lb ≠ q 0 ∧ p8 ≠ q 0 ∧ p8 ≠ q 0) := Lib.hid ⟨fun c => (htr8.nT 0 (Nat.zero_le _)).1 c.symm, fun c => (htr8.nT 0 (Nat.zero_le _)).2 c.symm, fun c => by have := HPU.out.tr.lt (j := q 0) (.inr (.inr ⟨0, Nat.zero_le _, rfl⟩)); omega, fun c => by have := HPU.out.tr.lt (j := q 0) (.inr (.inr ⟨0, Nat.zero_le _, rfl⟩)); omega⟩
      have HPU9 : Hid (Pu w T b g n D lb cap q S qg (fun W F => lvX lk o m ks xs W F ∧ blkX p8 (.cells cs.toArray LfT (0, 0)) W F) (leafF F ks xs (j + 1)) es j (V8.drew.setCells (q 0) (ks j * 32) xd.toList)) := Lib.hid (by
        rw [hxd]
        exact (hpu8.next (kept_and kept_lv kept_blk) (Below.refl _ _).drew).leaf (kept_and kept_lv kept_blk) hkl (HXS.out j hlt))
      have hj10 : j + 1 ≤ 1000000000 := by omega
      have HPUSH := Lib.hid (HPU9.out.push (kept_and kept_lv kept_blk) 0 (ks j) (by have := HEL.out; omega) hj10)
      rw [show ((0 : Nat) : Int) = 0 from rfl] at HPUSH
      have hk9 : (V8.drew.setCells (q 0) (ks j * 32) xd.toList).cell? ⟨p8, 0, none⟩ = some (.int .i64 (ks j : Int)) := by
        obtain ⟨G9, _, hbb, _⟩ := HPU9.out.x
        exact (blk_cell hbb 0).trans (by rw [hcs]; rfl)
      obtain ⟨V9, hV9⟩ : ∃ V9, V9 = V8.drew.setCells (q 0) (ks j * 32) xd.toList := ⟨_, rfl⟩
      rw [← hV9] at hk9 HPUSH
      have HV9 := Lib.hid hV9
      have HK9 := Lib.hid hk9
      generalize hkj : ks j = kj at *
      have HKJ := Lib.hid hkj
      clear hrg hcs ho8 hV8 hb8 hp8 hpu8 hp8e htr8 hxd hxs2 hV9 hk9 hkj
      go_upto_region 5 with (first
        | (with_reducible refine wpList_load_mid rfl LfT (.tmp 18) rfl lk (o + j * 33) rfl cs _ HRG.out Tryz.underlying40 rfl HIL.out ?_)
        | (with_reducible refine wpList_store_row rfl LfT (.tmp 8) (.tmp 19) rfl _ _ rfl rfl LfT _ HO8.out HIA.out HSZ8.out HON8.out ?_))
      rw [← HV8.out, ← HP8E.out]
      refine wp_region_F (S := (fun W : World => Same4 V8 T lb p8 p8 W)) [] (by kernel_rfl) (⟨rfl, rfl, rfl, rfl⟩) (fun hHeld => ?_)
      refine wpAnyF_take (i := 0) (oi := _) (v := ?_) rfl (by kernel_rfl) (by kernel_rfl) (by kernel_rfl) (by kernel_rfl) (fun _ _ _ h => h) (Or.inl ⟨by rfl, ?_⟩) (by assumption) ?_
      rotate_left 1
      · intro w hSw
        (try dsimp only at hSw)
        (first | (go_simp; done) | (go_simp; with_reducible rfl))
      (try simp only [Act.put, List.getElem_toArray, List.getElem_cons_succ, List.getElem_cons_zero, List.setIfInBounds_toArray, List.set_cons_zero, List.set_cons_succ])
      refine wpAnyF_take (i := 1) (oi := _) (v := ?_) rfl (by kernel_rfl) (by kernel_rfl) (by kernel_rfl) (by kernel_rfl) (fun _ _ _ h => h) (Or.inl ⟨by rfl, ?_⟩) (by assumption) ?_
      rotate_left 1
      · intro w hSw
        (try dsimp only at hSw)
        (first | (go_simp; done) | (go_simp; with_reducible rfl))
      (try simp only [Act.put, List.getElem_toArray, List.getElem_cons_succ, List.getElem_cons_zero, List.setIfInBounds_toArray, List.set_cons_zero, List.set_cons_succ])
      refine wpAnyF_take (i := 2) (oi := _) (v := ?_) rfl (by kernel_rfl) (by kernel_rfl) (by kernel_rfl) (by kernel_rfl) (fun _ _ _ h => h) (Or.inl ⟨by rfl, ?_⟩) (by assumption) ?_
      rotate_left 1
      · intro w hSw
        (try dsimp only at hSw)
        (first | (go_simp; done) | (go_simp; with_reducible rfl))
      (try simp only [Act.put, List.getElem_toArray, List.getElem_cons_succ, List.getElem_cons_zero, List.setIfInBounds_toArray, List.set_cons_zero, List.set_cons_succ])
      refine wpAnyF_take (i := 3) (oi := _) (v := _) rfl (by kernel_rfl) (by kernel_rfl) (by kernel_rfl) (by kernel_rfl) (fun _ _ _ h => h) (yields_cellP (by rfl) 45 (.tmp 22) rfl (T) (2) rfl (.slice (some ⟨lb, 0, none⟩) (D + 1) cap) _ (fun W h => (cell_of h.1 _).trans HK2.out) Tryz.underlying45 rfl) (by assumption) ?_
      (try simp only [Act.put, List.getElem_toArray, List.getElem_cons_succ, List.getElem_cons_zero, List.setIfInBounds_toArray, List.set_cons_zero, List.set_cons_succ])
      refine wpAnyF_take (i := 4) (oi := _) (v := ?_) rfl (by kernel_rfl) (by kernel_rfl) (by kernel_rfl) (by kernel_rfl) (fun _ _ _ h => h) (Or.inl ⟨by rfl, ?_⟩) (by assumption) ?_
      rotate_left 1
      · intro w hSw
        (try dsimp only at hSw)
        (first | (go_simp; done) | (go_simp; with_reducible rfl))
      (try simp only [Act.put, List.getElem_toArray, List.getElem_cons_succ, List.getElem_cons_zero, List.setIfInBounds_toArray, List.set_cons_zero, List.set_cons_succ])
      refine wpAnyF_take (i := 5) (oi := _) (v := _) rfl (by kernel_rfl) (by kernel_rfl) (by kernel_rfl) (by kernel_rfl) (fun _ _ _ h => h) (yields_cellP (by rfl) 30 (.tmp 24) rfl (lb) (0) rfl (.slice (some ⟨q 0, 0, none⟩) (2 ^ D) (2 ^ D)) _ (fun W h => (cell_of h.2.1 _).trans HKR.out) Tryz.underlying30 rfl) (by assumption) ?_
      (try simp only [Act.put, List.getElem_toArray, List.getElem_cons_succ, List.getElem_cons_zero, List.setIfInBounds_toArray, List.set_cons_zero, List.set_cons_succ])
      refine wpAnyF_take (i := 6) (oi := _) (v := ?_) rfl (by kernel_rfl) (by kernel_rfl) (by kernel_rfl) (by kernel_rfl) (fun _ _ _ h => h) (Or.inl ⟨by rfl, ?_⟩) (by assumption) ?_
      rotate_left 1
      · intro w hSw
        (try dsimp only at hSw)
        (first | (go_simp; done) | (go_simp; with_reducible rfl))
      (try simp only [Act.put, List.getElem_toArray, List.getElem_cons_succ, List.getElem_cons_zero, List.setIfInBounds_toArray, List.set_cons_zero, List.set_cons_succ])
      refine wpAnyF_take (i := 7) (oi := _) (v := _) rfl (by kernel_rfl) (by kernel_rfl) (by kernel_rfl) (by kernel_rfl) (fun _ _ _ h => h) (yields_cellP (by rfl) 3 (.tmp 26) rfl (p8) (0) rfl (.int .i64 (kj : Int)) _ (fun W h => (cell_of h.2.2.1 _).trans HP80.out) Tryz.underlying3 rfl) (by assumption) ?_
      (try simp only [Act.put, List.getElem_toArray, List.getElem_cons_succ, List.getElem_cons_zero, List.setIfInBounds_toArray, List.set_cons_zero, List.set_cons_succ])
      refine wpAnyF_take (i := 8) (oi := _) (v := ?_) rfl (by kernel_rfl) (by kernel_rfl) (by kernel_rfl) (by kernel_rfl) (fun _ _ _ h => h) (Or.inl ⟨by rfl, ?_⟩) (by assumption) ?_
      rotate_left 1
      · intro w hSw
        (try dsimp only at hSw)
        (first | (go_simp; done) | (go_simp; with_reducible rfl))
      (try simp only [Act.put, List.getElem_toArray, List.getElem_cons_succ, List.getElem_cons_zero, List.setIfInBounds_toArray, List.set_cons_zero, List.set_cons_succ])
      refine wpAnyF_take (i := 9) (oi := _) (v := _) rfl (by kernel_rfl) (by kernel_rfl) (by kernel_rfl) (by kernel_rfl) (fun _ _ _ h => h) (yields_rowP (by rfl) 34 (.tmp 28) rfl p8 1 rfl xd _ (fun W h => HXR.out W h) Tryz.underlying34 rfl HIX.out) (by assumption) ?_
      (try simp only [Act.put, List.getElem_toArray, List.getElem_cons_succ, List.getElem_cons_zero, List.setIfInBounds_toArray, List.set_cons_zero, List.set_cons_succ])
      refine wpAnyF_take (i := 10) (oi := _) (v := ?_) rfl (by kernel_rfl) (by kernel_rfl) (by kernel_rfl) (by kernel_rfl) (fun _ _ _ h => h) (Or.inl ⟨by rfl, ?_⟩) (by assumption) ?_
      rotate_left 1
      · intro w hSw
        (try dsimp only at hSw)
        (first | (go_simp; done) | (go_simp; with_reducible rfl))
      (try simp only [Act.put, List.getElem_toArray, List.getElem_cons_succ, List.getElem_cons_zero, List.setIfInBounds_toArray, List.set_cons_zero, List.set_cons_succ])
      refine wpAnyF_ready (rs := [11]) (by kernel_rfl) (by simp) ?_
      refine AllReadyF.cons (o := _) rfl (fun K hK => ?_) AllReadyF.nil
      rw [if_pos (by kernel_rfl)]
      refine wp_store_mid 34 (.tmp 30) (.tmp 29) rfl (q 0) (kj * 32) xd rfl rfl HTH.out HIX.out HOX.out ?_
      refine hK.out _ _ (Same4.set hHeld HNE5.out) (fun hHeld3 => ?_)
      clear hK K
      (try simp only [Act.put, List.getElem_toArray, List.getElem_cons_succ, List.getElem_cons_zero, List.setIfInBounds_toArray, List.set_cons_zero, List.set_cons_succ])
      refine wpAnyF_done (by kernel_rfl) ?_ _
      clear hHeld hHeld3
      rw [← HV9.out]
      have k9 := HK9.out
      go_wp2_with fail
      refine HPUSH.out.mono ?_
      rintro e W4 ⟨rfl, es', hperm, hpu4⟩
      have HPU4 := Lib.hid (hpu4.less (Y := lvX lk o m ks xs) (fun _ _ c => c.1))
      have HES4 : Hid (Es1 ks (j + 1) es') := Lib.hid (HES.out.push (t := j) (by rw [HKJ.out]; exact hperm))
      have HEL4 : Hid (es'.length = j + 1) := Lib.hid (by rw [hperm.length_eq, List.length_cons, HEL.out])
      clear hperm hpu4 k9
      go_wp2_with fail
      go_roundg (m - (j + 1))
      case measure => omega
      case rel => exact ⟨j + 1, es', by go_num, by omega, HPU4.out, HEL4.out, HES4.out⟩
    · have hjm2 : j = m := by omega
      subst hjm2
      have HG1 := Lib.hid (HES.out.good (xs := xs) HG.out)
      have HFT := Lib.hid (HES.out.fits HKS.out)
      have hw1 : weight D es ≤ 20000 := by
        have h1 := weight_le (D := D) es
        have h2 : es.length * (D + 1) ≤ 1024 * 11 := Nat.mul_le_mul (by have := HEL.out; omega) (by omega)
        omega
      have HW1 := Lib.hid hw1
      have HPOP := Lib.hid (HPU.out.popU kept_lv (by have := HEL.out; omega))
      clear hw1
      go_wp2_with fail
      refine HPOP.out.mono ?_
      rintro e W2 ⟨a, cm, ok, rfl, hcase⟩
      have HCASE := Lib.hid hcase
      clear hcase
      go_wp2_with fail
      have hst2 : Lp3 w T b g n D lb cap q S qg (lvX lk o j ks xs) (leafF F ks xs j 0) 20000 (.pointer (some ⟨W2.heap.size, 0, none⟩)) (.bool ok) (.int .i64 0) (W2.alloc (.cells #[.int .i64 a, .int .i64 cm] 61)) := by
        have hbb : Below W2.heap.size W2 (W2.alloc (.cells #[.int .i64 a, .int .i64 cm] 61)) := (Below.refl _ _).alloc (Nat.le_refl _) _
        rcases HCASE.out with ⟨rfl, h0, hq⟩ | ⟨rfl, k, es', hperm, hq⟩
        · have hg0 := HG1.out
          rw [h0] at hg0
          have hz := HEL.out
          rw [h0] at hz
          simp at hz
          omega
        · have hf := HFT.out _ (hperm.mem_iff.2 (List.mem_cons_self ..))
          obtain ⟨l, rfl⟩ : ∃ l : Nat, a = (l : Int) := ⟨a.toNat, by have := hf.1; have e : (En.mk a cm k).n = a := rfl; omega⟩
          obtain ⟨i, rfl⟩ : ∃ i : Nat, cm = (i : Int) := ⟨cm.toNat, by have := hf.2.2.1; have e : (En.mk (l : Int) cm k).m = cm := rfl; omega⟩
          exact ⟨0, rfl, by omega, .inr ⟨rfl, W2.heap.size, l, i, k, j, es', _, rfl, hq.more kept_lv hbb (Nat.le_refl _) (heap_alloc_new W2 _), HG1.out.perm hperm, hf, fun e he => HFT.out e (hperm.mem_iff.2 (List.mem_cons_of_mem _ he)), fun _ => rfl, by rw [← weight_perm hperm]; exact HW1.out, by omega, (first_pop hm1 HEL.out HES.out hperm).1, by have h4 : ((l : Nat) : Int) = 0 := (first_pop hm1 HEL.out HES.out hperm).2; omega⟩⟩
      have HST2 := Lib.hid hst2
      clear hst2 HCASE HPOP HW1 HFT HG1 HPU HES HEL
      go_loopg [9, 10, 6] 20000 (fun gk v9 v10 v6 W => Lp3 w T b g n D lb cap q S qg (lvX lk o j ks xs) (leafF F ks xs j 0) gk v9 v10 v6 W)
      case atStart => exact HST2.out
      case round =>
        clear HST2
        obtain ⟨c, rfl, hcg, hrest⟩ := hrel
        rcases hrest with ⟨rfl, ⟨ad, rfl⟩, t, F', hpu, hgd, hf0, hcD⟩ | ⟨rfl, p, l, i, tt, t, es, F', rfl, hpu, hgd, hfit, hfits, hf0, hwt, htg, hes0, hcl1⟩
        · have HFIN : Hid (PutOne w T b g n D lb cap j q F ks xs S (.returned (.int .i64 (c : Int))) wr) := Lib.hid (by
            rw [hcD]
            obtain ⟨v, S', Tx', sh', hp⟩ := hpu
            exact ⟨F', S', Tx', sh', rfl, hp.tr, hgd.nil, hf0, hp.bk, hp.s1, hp.st, hp.tu⟩)
          clear hpu hgd hf0 hcD
          go_wp2_with fail
          go_ret
          exact HFIN.out
        · have HPU := Lib.hid hpu
          have HGD := Lib.hid hgd
          have HFIT := Lib.hid hfit
          have HFITS := Lib.hid hfits
          have HF0 := Lib.hid hf0
          have HWT := Lib.hid hwt
          have hlen : es.length ≤ 200000 := by have h1 := weight_len hfits; rw [weight_cons] at hwt; omega
          have HPK := Lib.hid (hpu.peekU (kept_and kept_lv kept_blk) (by omega))
          have HES0 := Lib.hid hes0
          have HCL1 := Lib.hid hcl1
          clear hpu hgd hfit hfits hf0 hwt hes0 hcl1
          go_upto_block 3 with (fail)
          go_cut [6] (fun v6 wc => Mid3 w T b g n D lb cap q S qg (lvX lk o j ks xs) (leafF F ks xs j 0) gk p l i v6 wc)
          case first =>
            go_wp2_with fail
            refine HPK.out.mono ?_
            rintro e W3 ⟨a, cm, more, rfl, hmore, hpu3⟩
            have hbb : Below W3.heap.size W3 (W3.alloc (.cells #[.int .i64 a, .int .i64 cm] 61)) := (Below.refl _ _).alloc (Nat.le_refl _) _
            have hpu4 := hpu3.next (kept_and kept_lv kept_blk) hbb
            obtain ⟨G4, _, hblk, _⟩ := hpu4.x
            have k0 := blk_cell hblk 0
            have k1 := blk_cell hblk 1
            have HPU4 := Lib.hid hpu4
            have HMORE := Lib.hid hmore
            have heq := fun a b l i W => eql_pl a b l i W
            simp only [List.getElem?_toArray, List.getElem?_cons_zero, List.getElem?_cons_succ] at k0 k1
            clear hmore hpu3 hpu4 hblk hbb
            cases more
            · go_upto_if 62 with (fail)
              go_cut [6] (fun v6 wc => Rk3 w T b g n D lb cap q S qg (lvX lk o j ks xs) (leafF F ks xs j 0) c p l i tt t es v6 wc)
              case first =>
                by_cases hl0 : l = 0
                · have HR0 : Hid (Rk3 w T b g n D lb cap q S qg (lvX lk o j ks xs) (leafF F ks xs j 0) c p l i tt t es (.int .i64 (c : Int)) (W3.alloc (.cells #[.int .i64 a, .int .i64 cm] 61))) := Lib.hid ⟨c, rfl, by omega, by have := HCL1.out; omega, F', HPU4.out, fun d i' h1 h2 _ => HGD.out d i' h1 h2, fun d hd => by omega, HF0.out⟩
                  have hz1 : ¬ (0 : Int) < (l : Int) := by omega
                  have hz2 : ¬ 0 < l := by omega
                  go_wp2_with fail
                  go_meet
                  case rel => exact HR0.out
                · have hz1 : (0 : Int) < (l : Int) := by omega
                  have hz2 : 0 < l := by omega
                  obtain ⟨d, hd⟩ : ∃ d, l = d + 1 := ⟨l - 1, by omega⟩
                  have HREC := Lib.hid (HPU4.out.reck (kept_and kept_lv kept_blk) d i (by have := HFIT.out.2.1; simp only [Int.toNat_natCast] at this; omega) (by have := HFIT.out.2.2.2; simp only [Int.toNat_natCast] at this; rw [← hd]; exact this))
                  have HGR := Lib.hid (HGD.out.reck (d0 := d) (i0 := i) (by rw [← hd]) rfl)
                  rw [← hd] at HREC HGR
                  have HDL := Lib.hid hd
                  clear hd
                  go_wp2_with fail
                  refine HREC.out.mono ?_
                  rintro e W4 ⟨rfl, hpu5⟩
                  have HR1 : Hid (Rk3 w T b g n D lb cap q S qg (lvX lk o j ks xs) (leafF F ks xs j 0) c p l i tt t es (.int .i64 ((c + 1 : Nat) : Int)) W4) := Lib.hid ⟨c + 1, rfl, by omega, by have := HCL1.out; omega, _, hpu5, HGR.out.1, fun d' hd' => by
                    have e9 : d' = d := by have := HDL.out; omega
                    subst e9
                    exact HGR.out.2, fun i' => by rw [setF_ne _ _ (fun x => by omega)]; exact HF0.out i'⟩
                  clear hpu5 k0 k1
                  go_wp2_with fail
                  go_meet
                  case rel => first | exact HR1.out | (rw [show ((c : Int) + 1) = ((c + 1 : Nat) : Int) by omega]; exact HR1.out)
              case rest =>
                obtain ⟨c2, rfl, hc2, hc2l, F2, hpu5, hg5, hr5, hf5⟩ := hcut
                have HC2L := Lib.hid hc2l
                clear hc2l
                have HPU5 := Lib.hid hpu5
                have HG5 := Lib.hid hg5
                have HR5 := Lib.hid hr5
                have HF5 := Lib.hid hf5
                obtain ⟨G5, _, hblk5, _⟩ := hpu5.x
                have HPB : Hid (wc.drew.heap[p]? = some (.cells #[.int .i64 (l : Int), .int .i64 (i : Int)] 61 (0, 0))) := Lib.hid hblk5
                have HDEP := Lib.hid (tdepth_any T b n D lb cap q F2 wc.drew ((hpu5.next (kept_and kept_lv kept_blk) ((Below.refl _ _).drew)).tr))
                have HPU6 := Lib.hid (hpu5.next (kept_and kept_lv kept_blk) ((Below.refl _ _).drew))
                have hcl : c2 + gk ≤ 100001 := by omega
                have hlD : l ≤ D := by have := HFIT.out.2.1; simp only [Int.toNat_natCast] at this; omega
                have HLI : Hid (i < 2 ^ (D - l)) := Lib.hid (by have := HFIT.out.2.2.2; simp only [Int.toNat_natCast] at this; exact this)
                have hi1024 : i ≤ 1000000 := by
                  have h1 := HLI.out
                  have h2 : 2 ^ (D - l) ≤ 2 ^ 10 := Nat.pow_le_pow_right (by omega) (by omega)
                  omega
                have HWC := Lib.hid (weight_cons D ⟨(l : Int), (i : Int), tt⟩ es)
                clear hpu5 hg5 hr5 hf5 hblk5 k0 k1 HPU4 HF0 HGD
                go_upto_region 16 with (fail)
                refine wp_region_F (S := (fun W : World => W.heap[p]? = some (.cells #[.int .i64 (l : Int), .int .i64 (i : Int)] 61 (0, 0)))) [] (by kernel_rfl) (HPB.out) (fun hHeld => ?_)
                refine wpAnyF_take (i := 0) (oi := _) (v := ?_) rfl (by kernel_rfl) (by kernel_rfl) (by kernel_rfl) (by kernel_rfl) (fun _ _ _ h => h) (Or.inl ⟨by rfl, ?_⟩) (by assumption) ?_
                rotate_left 1
                · intro w hSw
                  (try dsimp only at hSw)
                  (first | (go_simp; done) | (go_simp; with_reducible rfl))
                (try simp only [Act.put, List.getElem_toArray, List.getElem_cons_succ, List.getElem_cons_zero, List.setIfInBounds_toArray, List.set_cons_zero, List.set_cons_succ])
                refine wpAnyF_take (i := 1) (oi := _) (v := _) rfl (by kernel_rfl) (by kernel_rfl) (by kernel_rfl) (by kernel_rfl) (fun _ _ _ h => h) (yields_cellP (by rfl) 3 (.tmp 68) rfl (p) (0) rfl (.int .i64 (l : Int)) _ (fun W h => blk_cell h 0) Tryz.underlying3 rfl) (by assumption) ?_
                (try simp only [Act.put, List.getElem_toArray, List.getElem_cons_succ, List.getElem_cons_zero, List.setIfInBounds_toArray, List.set_cons_zero, List.set_cons_succ])
                refine wpAnyF_take (i := 2) (oi := _) (v := ?_) rfl (by kernel_rfl) (by kernel_rfl) (by kernel_rfl) (by kernel_rfl) (fun _ _ _ h => h) (Or.inl ⟨by rfl, ?_⟩) (by assumption) ?_
                rotate_left 1
                · intro w hSw
                  (try dsimp only at hSw)
                  (first | (go_simp; done) | (go_simp; with_reducible rfl))
                (try simp only [Act.put, List.getElem_toArray, List.getElem_cons_succ, List.getElem_cons_zero, List.setIfInBounds_toArray, List.set_cons_zero, List.set_cons_succ])
                refine wpAnyF_ready (rs := [3]) (by kernel_rfl) (by simp) ?_
                refine AllReadyF.cons (o := _) rfl (fun K hK => ?_) AllReadyF.nil
                go_simp
                refine (HDEP.out).mono ?_
                rintro e W6 ⟨rfl, rfl⟩
                refine hK.out _ _ (hHeld) (fun hHeld3 => ?_)
                clear hK K
                (try simp only [Act.put, List.getElem_toArray, List.getElem_cons_succ, List.getElem_cons_zero, List.setIfInBounds_toArray, List.set_cons_zero, List.set_cons_succ])
                refine wpAnyF_take (i := 4) (oi := _) (v := ?_) rfl (by kernel_rfl) (by kernel_rfl) (by kernel_rfl) (by kernel_rfl) (fun _ _ _ h => h) (Or.inl ⟨by rfl, ?_⟩) (by assumption) ?_
                rotate_left 1
                · intro w hSw
                  (try dsimp only at hSw)
                  (first | (go_simp; done) | (go_simp; with_reducible rfl))
                (try simp only [Act.put, List.getElem_toArray, List.getElem_cons_succ, List.getElem_cons_zero, List.setIfInBounds_toArray, List.set_cons_zero, List.set_cons_succ])
                refine wpAnyF_done (by kernel_rfl) ?_ _
                clear hHeld hHeld3
                by_cases hLD : l < D
                · have hLDi : (l : Int) < (D : Int) := by omega
                  obtain ⟨l1, hl1⟩ : ∃ x, x = l + 1 := ⟨_, rfl⟩
                  obtain ⟨i1, hi1⟩ : ∃ x, x = i / 2 := ⟨_, rfl⟩
                  have HAB := Lib.hid (fun W => above_any l i (by omega) hi1024 W)
                  rw [← hl1, ← hi1] at HAB
                  have HL1 := Lib.hid hl1
                  have HI1 := Lib.hid hi1
                  have k0 : wc.drew.cell? ⟨p, 0, none⟩ = some (.int .i64 (l : Int)) := blk_cell HPB.out 0
                  have k1 : wc.drew.cell? ⟨p, 1, none⟩ = some (.int .i64 (i : Int)) := blk_cell HPB.out 1
                  have k0' : wc.cell? ⟨p, 0, none⟩ = some (.int .i64 (l : Int)) := blk_cell HPB.out 0
                  have k1' : wc.cell? ⟨p, 1, none⟩ = some (.int .i64 (i : Int)) := blk_cell HPB.out 1
                  clear hl1 hi1
                  go_wp2_with fail
                  refine (HAB.out _).mono ?_
                  rintro e W7 ⟨rfl, hb7⟩
                  have HPU7 := Lib.hid (HPU6.out.next (kept_and kept_lv kept_blk) hb7)
                  have HPUSH := Lib.hid (HPU7.out.push (kept_and kept_lv kept_blk) l1 i1 (by omega) (by omega))
                  clear hb7 k0 k1 k0' k1'
                  go_wp2_with fail
                  refine HPUSH.out.mono ?_
                  rintro e W8 ⟨rfl, es', hperm, hpu8⟩
                  have HM : Hid (Mid3 w T b g n D lb cap q S qg (lvX lk o j ks xs) (leafF F ks xs j 0) gk p l i (.int .i64 (c2 : Int)) W8) := Lib.hid (by
                    have hl1 := HL1.out
                    have hi1 := HI1.out
                    subst hl1 hi1
                    refine ⟨c2, rfl, hcl, t + 1, es', F2, hpu8, (Good.up HG5.out HR5.out).perm hperm.symm, fun e he => ?_, HF5.out, ?_, by omega, JMid.push (by rw [HES0.out] at hperm; exact hperm) HC2L.out⟩
                    · rcases List.mem_cons.1 (hperm.mem_iff.1 he) with rfl | he
                      · exact HFIT.out.up hLD
                      · exact HFITS.out e he
                    · rw [weight_perm hperm, weight_cons]
                      have h1 := HWT.out
                      rw [HWC.out] at h1
                      simp only [Int.toNat_natCast] at h1 ⊢
                      omega)
                  clear hperm hpu8
                  go_wp2_with fail
                  go_meet
                  case rel => exact HM.out
                · have hLDi : ¬ (l : Int) < (D : Int) := by omega
                  have HM : Hid (Mid3 w T b g n D lb cap q S qg (lvX lk o j ks xs) (leafF F ks xs j 0) gk p l i (.int .i64 (c2 : Int)) wc.drew) := Lib.hid (by
                    have hl1 : l = D := by omega
                    subst hl1
                    refine ⟨c2, rfl, hcl, t, es, F2, HPU6.out, Good.top HG5.out rfl rfl HR5.out, HFITS.out, HF5.out, ?_, by omega, .inl ⟨HES0.out, HC2L.out⟩⟩
                    have h1 := HWT.out
                    rw [HWC.out] at h1
                    simp only [Int.toNat_natCast] at h1
                    omega)
                  go_wp2_with fail
                  go_meet
                  case rel => exact HM.out
            · obtain ⟨k, hk, _⟩ := HMORE.out rfl
              rw [HES0.out] at hk
              cases hk
          case rest =>
            obtain ⟨c2, rfl, hc2, t2, es2, F2, hpu5, hg5, hfs5, hf5, hw5, ht5, hjm⟩ := hcut
            have HJM := Lib.hid hjm
            clear hjm
            have HG5 := Lib.hid hg5
            have HFS5 := Lib.hid hfs5
            have HF5 := Lib.hid hf5
            have HW5 := Lib.hid hw5
            obtain ⟨G5, hlv5, hblk5, _⟩ := hpu5.x
            have k0 := blk_cell hblk5 0
            have k1 := blk_cell hblk5 1
            simp only [List.getElem?_toArray, List.getElem?_cons_zero, List.getElem?_cons_succ] at k0 k1
            have hlkn : lk ≠ wc.heap.size := by have := hlv5.2.2; omega
            have hsz5 := hpu5.lt
            have hpX := hpu5.less (Y := lvX lk o j ks xs) (fun _ _ x => x.1)
            have hbb : Below wc.heap.size wc (wc.alloc (.cells #[.int .i64 (l : Int), .int .i64 (i : Int)] 61)) := (Below.refl _ _).alloc (Nat.le_refl _) _
            have hp6 := hpX.more kept_lv hbb (Nat.le_refl _) (heap_alloc_new wc _)
            have hlen2 : es2.length ≤ 1000000000 := by have h1 := weight_len hfs5; omega
            have HPOP := Lib.hid (hp6.popU (kept_and kept_lv kept_blk) hlen2)
            have HPS := Lib.hid hsz5
            have HLKN := Lib.hid hlkn
            have hgk1 : 1 ≤ gk := by omega
            obtain ⟨p2, hp2⟩ : ∃ p2, p2 = wc.heap.size := ⟨_, rfl⟩
            have HP2 := Lib.hid hp2
            rw [← hp2] at HPOP HPS HLKN
            clear hg5 hfs5 hf5 hw5 hpu5 hlv5 hblk5 hsz5 hlkn hpX hbb hp6 hp2
            go_wp2_with fail
            (try rw [← HP2.out])
            refine HPOP.out.mono ?_
            rintro e W7 ⟨a, cm, ok2, rfl, hcase⟩
            have hblk7 : W7.heap[p2]? = some (.cells #[.int .i64 (l : Int), .int .i64 (i : Int)] 61 (0, 0)) := by
              rcases hcase with ⟨_, _, hq⟩ | ⟨_, k, es', _, hq⟩
              · obtain ⟨G7, _, hb7, _⟩ := hq.x; exact hb7
              · obtain ⟨G7, _, hb7, _⟩ := hq.x; exact hb7
            have HB7 := Lib.hid hblk7
            have HI2 : Hid ((Tryz.prog.info? 61).map (·.size) = some (#[Value.int .i64 a, .int .i64 cm] : Array Value).size) := Lib.hid (by kernel_rfl)
            have HS2 : Hid ((#[Value.int .i64 (l : Int), .int .i64 (i : Int)] : Array Value).size = (#[Value.int .i64 a, .int .i64 cm] : Array Value).size) := Lib.hid rfl
            have HN2 : Hid ((#[Value.int .i64 a, .int .i64 cm] : Array Value).all (·.oneCell') = true) := Lib.hid (by simp [Value.oneCell'])
            have hst9 : Lp3 w T b g n D lb cap q S qg (lvX lk o j ks xs) (leafF F ks xs j 0) (gk - 1) (.pointer (some ⟨p2, 0, none⟩)) (.bool ok2) (.int .i64 (c2 : Int)) (W7.setRow p2 #[.int .i64 a, .int .i64 cm]) := by
              rcases hcase with ⟨rfl, h0, hq⟩ | ⟨rfl, k, es', hperm, hq⟩
              · have hg0 := HG5.out
                rw [h0] at hg0
                exact ⟨c2, rfl, by omega, .inl ⟨rfl, ⟨_, rfl⟩, t2, F2, (hq.setP HPS.out HLKN.out).less (fun _ _ x => x.1), hg0, HF5.out, (h0 ▸ HJM.out).done⟩⟩
              · have hf := HFS5.out _ (hperm.mem_iff.2 (List.mem_cons_self ..))
                obtain ⟨l', rfl⟩ : ∃ l : Nat, a = (l : Int) := ⟨a.toNat, by have := hf.1; have e : (En.mk a cm k).n = a := rfl; omega⟩
                obtain ⟨i', rfl⟩ : ∃ i : Nat, cm = (i : Int) := ⟨cm.toNat, by have := hf.2.2.1; have e : (En.mk (l' : Int) cm k).m = cm := rfl; omega⟩
                exact ⟨c2, rfl, by omega, .inr ⟨rfl, p2, l', i', k, t2, es', F2, rfl, hq.setP HPS.out HLKN.out, HG5.out.perm hperm, hf, fun e he => HFS5.out e (hperm.mem_iff.2 (List.mem_cons_of_mem _ he)), HF5.out, by rw [← weight_perm hperm]; have := HW5.out; omega, by omega, (HJM.out.pop hperm).1, by have h9 := (HJM.out.pop hperm).2; exact h9⟩⟩
            have HST9 := Lib.hid hst9
            clear hcase hblk7 hst9 k0 k1
            go_wp2_with (with_reducible refine wpList_store_row rfl 61 (.tmp 9) (.tmp 47) rfl p2 #[.int .i64 a, .int .i64 cm] rfl rfl 61 #[.int .i64 (l : Int), .int .i64 (i : Int)] HB7.out HI2.out HS2.out HN2.out ?_)
            go_roundg (gk - 1)
            case measure => omega
            case rel => exact HST9.out
end
section
open Go.RowKit Go
set_option linter.unusedVariables false
set_option linter.unusedSimpArgs false
set_option maxRecDepth 100000
theorem leaf_built (k : Int) (x : List Nat) : Tryz.prog.built LfX [(0, .int .i64 k), (1, .agg (dA x))] = some (.int .i64 k :: (dA x).toList).toArray := by kernel_rfl
theorem lacks_in (T b n D lb cap k : Nat) (q : Nat → Nat) (F : Nat → Nat → List Nat) (zz : Array Value) (hz0 : zz[0]? = some (.int .i64 (k : Int))) (w : World) (h : TrB w T b n D lb cap q F) (hk : k < n) :
    Calls Tryz.prog 27 #[.pointer (some ⟨T, 0, none⟩), .agg zz] w fun e w' => e = .returned (.bool false) ∧ Below w.heap.size w w' := by
  have hx := heap_alloc_new w (.cells zz 40)
  have hb : Below w.heap.size w (w.alloc (.cells zz 40)) := (Below.refl _ _).alloc (Nat.le_refl _) _
  have c0 : (w.alloc (.cells zz 40)).cell? ⟨w.heap.size, 0, none⟩ = some (.int .i64 (k : Int)) := (blk_cell hx 0).trans hz0
  have HH := Lib.hid (thas_any T b n D lb cap (k : Int) q F (w.alloc (.cells zz 40)) (h.next hb))
  rw [decide_eq_true (show (0 : Int) ≤ (k : Int) ∧ (k : Int) < (n : Int) from ⟨by omega, by omega⟩)] at HH
  have HB := Lib.hid hb
  clear hx hb h hz0
  go_enter Tryz.func27, Tryz.ntmps27
  go_wp2_with fail
  refine HH.out.mono ?_
  rintro e w' ⟨rfl, rfl⟩
  go_wp2
  go_ret
  exact ⟨rfl, HB.out⟩
set_option maxHeartbeats 2000000 in
theorem lindex_one (T b n D lb cap k lk : Nat) (q : Nat → Nat) (F : Nat → Nat → List Nat) (zz : Array Value) (hzs : zz.size = 33) (hz0 : zz[0]? = some (.int .i64 (k : Int))) (w : World) (hlk : w.heap[lk]? = some (.cells zz 40 (0, 0))) (h : TrB w T b n D lb cap q F) (hk : k < n) :
    Calls Tryz.prog 45 #[.slice (some ⟨lk, 0, none⟩) 1 1, .func (Fn.func 27) #[.pointer (some ⟨T, 0, none⟩)] #[]] w fun e w' => e = .returned (.int .i64 (-1)) ∧ Below w.heap.size w w' := by
  have HLK := Lib.hid hlk
  have HT := Lib.hid h
  have HLA : Hid (∀ W, Below w.heap.size w W → Calls Tryz.prog 27 #[.pointer (some ⟨T, 0, none⟩), .agg zz] W fun e w' => e = .returned (.bool false) ∧ Below W.heap.size W w') := Lib.hid (fun W hb => lacks_in T b n D lb cap k q F zz hz0 W (h.next hb) hk)
  have HIL : Hid ((Tryz.prog.info? 40).map (·.size) = some zz.toList.length) := Lib.hid (by rw [Array.length_toList, hzs]; kernel_rfl)
  have hxa : zz.toList.toArray = zz := by simp
  clear hlk h hz0
  go_enter Tryz.func45, Tryz.ntmps45
  go_wp2
  go_loopw [8] (fun iv wr => ∃ j : Nat, iv = .int .i64 (j : Int) ∧ j ≤ 1 ∧ Below w.heap.size w wr) (fun iv _ => (1 - intOf iv).toNat)
  case atStart => exact ⟨0, rfl, by omega, Below.refl _ _⟩
  case round =>
    obtain ⟨j, rfl, hj, hb⟩ := hrel
    have HB := Lib.hid hb
    clear hb
    by_cases hlt : j < 1
    · have hlti : (j : Int) < 1 := by omega
      have HR : Hid (wr.rangeAt lk (j * 33) zz.toList) := Lib.hid (by
        have hj0 : j = 0 := by omega
        subst hj0
        have h1 := (HB.out.block lk (blk_lt HLK.out)).trans HLK.out
        intro i v hv
        rw [Nat.zero_mul, Nat.zero_add, blk_cell h1 i]
        simpa using hv)
      go_wp2_with (with_reducible refine wpList_load_mid rfl 40 (.tmp 14) rfl lk (j * 33) rfl zz.toList _ HR.out Tryz.underlying40 rfl HIL.out ?_)
      refine (HLA.out wr HB.out).mono ?_
      rintro e w2 ⟨rfl, hb2⟩
      have HB2 := Lib.hid (HB.out.trans (hb2.mono HB.out.size))
      clear hb2
      go_wp2
      go_roundw
      case rel => exact ⟨j + 1, by go_num, by omega, HB2.out⟩
      case measure => simp [intOf]; omega
    · obtain rfl : j = 1 := by omega
      go_wp2
      go_ret
      exact ⟨rfl, HB.out⟩
theorem lcontains_one (T b n D lb cap k lk : Nat) (q : Nat → Nat) (F : Nat → Nat → List Nat) (zz : Array Value) (hzs : zz.size = 33) (hz0 : zz[0]? = some (.int .i64 (k : Int))) (w : World) (hlk : w.heap[lk]? = some (.cells zz 40 (0, 0))) (h : TrB w T b n D lb cap q F) (hk : k < n) :
    Calls Tryz.prog 26 #[.slice (some ⟨lk, 0, none⟩) 1 1, .func (Fn.func 27) #[.pointer (some ⟨T, 0, none⟩)] #[]] w fun e w' => e = .returned (.bool false) ∧ Below w.heap.size w w' := by
  have HI := Lib.hid (lindex_one T b n D lb cap k lk q F zz hzs hz0 w hlk h hk)
  clear hlk h hz0
  go_enter Tryz.func26, Tryz.ntmps26
  go_wp2_with fail
  refine HI.out.mono ?_
  rintro e w' ⟨rfl, hb⟩
  have HB := Lib.hid hb
  clear hb
  go_wp2
  go_ret
  exact ⟨rfl, HB.out⟩
def SetOne (w : World) (T b g n D lb cap k : Nat) (q : Nat → Nat) (F : Nat → Nat → List Nat) (x : List Nat) (S : Nat → Prop) (e : Ending) (w' : World) : Prop :=
  ∃ (F' : Nat → Nat → List Nat) (S' : Nat → Prop) (Tx sh : List (List Nat)), e = .returned (.tuple #[.int .i64 (D : Int), .int .i64 0]) ∧ TrB w' T b n D lb cap q F' ∧ (∀ d i, d + 1 ≤ D → i < 2 ^ (D - (d + 1)) → Right F' d i) ∧ (∀ i, F' 0 i = setF F 0 k x 0 i) ∧
    IsBook w' b g S' Tx sh ∧ (∀ j, S' j → S j ∨ w.heap.size ≤ j) ∧ (∀ j, trS T lb D q j → ¬ S' j) ∧ Turns (fun j => S j ∨ ∃ d, d ≤ D ∧ j = q d) w w'
set_option maxHeartbeats 2000000 in
theorem tset_one (T b g n D lb cap k lk : Nat) (q : Nat → Nat) (F : Nat → Nat → List Nat) (x : List Nat) (hx : IsDig x) (S : Nat → Prop) (Tx sh : List (List Nat)) (w : World) (hlk : w.heap[lk]? = some (.cells (lfL k x).toArray 40 (0, 0))) (h : TrB w T b n D lb cap q F) (hbk : IsBook w b g S Tx sh) (hap : ∀ j, trS T lb D q j → ¬ S j)
    (hls : ¬ S lk ∧ ∀ d, d ≤ D → lk ≠ q d) (hk : k < n) (hg : ∀ d i, d + 1 ≤ D → i < 2 ^ (D - (d + 1)) → Right F d i) :
    Calls Tryz.prog 10 #[.pointer (some ⟨T, 0, none⟩), .slice (some ⟨lk, 0, none⟩) 1 1] w (SetOne w T b g n D lb cap k q F x S) := by
  have hkD : k < 2 ^ D := Nat.lt_of_lt_of_le hk h.n1.2
  have hsz : (lfL k x).toArray.size = 33 := by rw [List.size_toArray, lfL_len]
  have HN := Lib.hid (tnone_any T b n D lb cap q F w h)
  have HC := Lib.hid (lcontains_one T b n D lb cap k lk q F (lfL k x).toArray hsz (by rw [List.getElem?_toArray]; rfl) w hlk h hk)
  have HP := Lib.hid (fun W (hb : Below w.heap.size w W) => tput_one T b g n D lb cap lk 0 1 1 q F (fun _ => k) (fun _ => x) S Tx sh W (h.next hb) (hbk.below hb) hap
    (fun j hj i v hv => by
      have hj0 : j = 0 := by omega
      subst hj0
      have h1 := (hb.block lk (blk_lt hlk)).trans hlk
      rw [Nat.zero_mul, Nat.zero_add, blk_cell h1 i, List.getElem?_toArray]
      exact hv) ⟨Nat.lt_of_lt_of_le (blk_lt hlk) hb.size, hls.1, hls.2⟩ (by omega) rfl (Nat.le_refl _) (fun _ _ => hkD) (fun _ _ => hx) (fun d i h1 h2 => .inl (hg d i h1 h2)))
  clear hlk h hbk hap hls hg hsz
  go_enter Tryz.func10, Tryz.ntmps10
  go_wp2_with fail
  refine HN.out.mono ?_
  rintro e w1 ⟨rfl, rfl⟩
  go_wp2_with fail
  refine HC.out.mono ?_
  rintro e w2 ⟨rfl, hb2⟩
  have HB2 := Lib.hid hb2
  clear hb2
  go_wp2_with fail
  refine (HP.out w2 HB2.out).mono ?_
  rintro e w3 ⟨F', S', Tx', sh', rfl, h1, h2, h3, h4, h5, h6, h7⟩
  have HF : Hid (SetOne w T b g n D lb cap k q F x S (.returned (.tuple #[.int .i64 (D : Int), .int .i64 0])) w3) := Lib.hid ⟨F', S', Tx', sh', rfl, h1, h2, h3, h4, fun j hj => by
      rcases h5 j hj with y | y
      · exact .inl y
      · exact .inr (Nat.le_trans HB2.out.size y), h6, (Turns.of_below HB2.out).trans h7 (fun j _ hh => hh)⟩
  clear h1 h2 h3 h4 h5 h6 h7
  go_wp2
  exact bodyPost_ret (v := .tuple #[.int .i64 (D : Int), .int .i64 0]) (by simp [results, Tryz.results10, go_sem]) rfl HF.out
end
section
open Go.RowKit Go
set_option linter.unusedVariables false
set_option linter.unusedSimpArgs false
set_option maxRecDepth 100000
theorem dptX {n : Nat} (h : n ≤ 20) : dpt n = dpX n := by unfold dpt dpX; repeat' split <;> try omega
theorem and31 (k : Int) : ∃ j : Nat, j < 32 ∧ bits .and .i64 k 31 = (j : Int) := by
  have h1 : (BitVec.ofInt 64 k).toNat &&& 31 ≤ 31 := Nat.and_le_right
  refine ⟨(BitVec.ofInt 64 k).toNat &&& 31, by omega, ?_⟩
  show IntKind.i64.wrap ((BitVec.ofInt 64 k &&& BitVec.ofInt 64 31).toNat : Int) = _
  rw [BitVec.toNat_and]
  have h2 : (BitVec.ofInt 64 31).toNat = 31 := by decide
  rw [h2]
  exact IntWalk.i64_in _ ⟨by omega, by omega⟩
set_option maxHeartbeats 8000000 in
theorem treeOne_20 (n0 n c : Nat) (A : Option Addr) (ls : Nat → List Nat) (k : Int) (w : World) (hfew : Calls Tryz.prog 4 #[.slice A n0 c] w fun e w' => e = .returned (.slice A n c) ∧ w = w') (hds : DgS w A n ls) (hn : n ≤ 20) (hc : n ≤ c) :
    Calls Tryz.prog 3 #[.slice A n0 c, .int .i64 k] w fun e w' => e = .returned (.bool true) ∧ Below w.heap.size w w' := by
  have HFEW := Lib.hid hfew
  have HDS := Lib.hid hds
  have hz := zero_dig
  clear hfew hds
  go_enter Tryz.func3, Tryz.ntmps3
  go_wp2_with fail
  refine HFEW.out.mono ?_
  rintro e w' ⟨rfl, rfl⟩
  go_wp2_with fail
  refine (book12_any _).mono ?_
  rintro e w1 ⟨b, g, S, rfl, hbk, hS, hb1⟩
  have HBK := Lib.hid hbk
  have HS := Lib.hid hS
  have HB1 := Lib.hid hb1
  clear hbk hS hb1
  go_wp2_with fail
  refine (digests_any n c A ls w1 (HDS.out.below HB1.out) hn).mono ?_
  rintro e w2 ⟨A2, c2, rfl, hc2, hd2, hb2⟩
  have HD2 := Lib.hid hd2
  have HB2 : Hid (Below w.heap.size w w2) := Lib.hid (HB1.out.trans (hb2.mono HB1.out.size))
  have HBK2 := Lib.hid (HBK.out.below hb2)
  clear hd2 hb2
  by_cases hn0 : n = 0
  · subst hn0
    go_wp2_with fail
    refine (tnew_zero b c2 A2 _).mono ?_
    rintro e w3 ⟨rfl, rfl⟩
    go_wp2_with fail
    refine (awake12_any _).mono ?_
    rintro e w5 ⟨rfl, hb5⟩
    have HB5 := Lib.hid (HB2.out.trans (hb5.mono HB2.out.size))
    clear hb5
    go_wp2
    go_ret
    exact ⟨rfl, HB5.out⟩
  · have hn1 : 1 ≤ n := by omega
    have hnp : (0 : Int) < (n : Int) := by omega
    have hnz : ((n : Int) == 0) = false := by rw [beq_eq_false_iff_ne]; omega
    have hnz2 : ¬ (n : Int) = 0 := by omega
    have HNEW := Lib.hid (tnew_any b g n c2 A2 ls S [] [] w2 HBK2.out HD2.out hn1 hn hc2)
    obtain ⟨r, hr, hand⟩ := and31 k
    obtain ⟨kk, hkk⟩ : ∃ kk, kk = r % n := ⟨_, rfl⟩
    have hk : kk < n := by rw [hkk]; exact Nat.mod_lt _ (by omega)
    have hm1 : (r : Int) % (n : Int) = (kk : Int) := by rw [hkk]; omega
    have hm2 : (r : Int).tmod (n : Int) = (kk : Int) := by rw [Int.tmod_eq_emod_of_nonneg (by omega)]; exact hm1
    have hm3 : IntKind.i64.wrap (kk : Int) = (kk : Int) := by unfold IntKind.wrap; simp [IntKind.signed, IntKind.bits]; omega
    clear hkk
    go_wp2_with fail
    refine HNEW.out.mono ?_
    rintro e w3 ⟨T, lb, cap, q, F, S', Tx, sh, rfl, htr, hrr, hf0, hbk6, hs6, hap6, ht6⟩
    have HTR := Lib.hid htr
    have HRR := Lib.hid hrr
    have HF0 := Lib.hid hf0
    have HBK3 := Lib.hid hbk6
    have HS2 : Hid (∀ j, S' j → w.heap.size ≤ j) := Lib.hid (fun j hj => by
      rcases hs6 j hj with x | x
      · exact HS.out j x
      · have := HB2.out.size; omega)
    have HAPT : Hid (∀ j, trS T lb (dpt n) q j → ¬ S' j) := Lib.hid (fun j hj => (hap6 j hj).1)
    have HAPW : Hid (∀ j, trS T lb (dpt n) q j → w.heap.size ≤ j) := Lib.hid (fun j hj => Nat.le_trans HB2.out.size (hap6 j hj).2)
    have HBW3 : Hid (Below w.heap.size w w3) := Lib.hid (HB2.out.trans (ht6.below HB2.out.size (fun j hj => HS.out j hj)))
    have HDX : Hid (dpt n = dpX n) := Lib.hid (dptX hn)
    have HD5 : Hid (dpt n ≤ 5) := Lib.hid (dpt_le n hn)
    have HDR := Lib.hid (fun W => rdepth_any n hn W)
    have HFM : Hid (F (dpt n) 0 = treeAt (mixX n ls) (dpt n) 0) := Lib.hid (right_tree hrr hf0 (dpt n) 0 (Nat.le_refl _) (by simp))
    clear htr hrr hf0 hbk6 hs6 hap6 ht6 HNEW
    generalize dpt n = D at *
    have hD5 := HD5.out
    obtain ⟨da, hda⟩ : ∃ da, da = digA (txt 2 [putL 4 n, F D 0]) := ⟨_, rfl⟩
    have HDA := Lib.hid hda
    have hx2 : da.size = 32 := by rw [hda, digA_dA, rowV_size]
    have HI := Lib.hid (info_dig hx2)
    have HO : Hid (da.all (·.oneCell') = true) := Lib.hid (by rw [hda, digA_dA]; exact dA_one _)
    have HZ : Hid ((zeros 32).size = da.size) := Lib.hid (by rw [hx2]; simp [zeros])
    have HEQ2 : Hid (∀ W, (binOp .eql 34 (.agg da) (.agg da)).run Tryz.prog W = .ok (.bool true) W) := Lib.hid (fun W => by rw [hda, bk_dig_eq]; simp)
    clear hda hx2
    go_wp2_with fail
    refine (troot_m T b g n D lb cap q F S' Tx sh w3 HTR.out HBK3.out (HAPT.out T (.inl rfl)) (by omega)).mono ?_
    intro e w4 hsum
    have HT4 := Lib.hid hsum.2.1
    have HBK4 := Lib.hid hsum.2.2
    have he := hsum.1
    subst he
    rw [← HDA.out]
    clear hsum
    have htr4 : TrB w4 T b n D lb cap q F := HTR.out.keep HT4.out HAPT.out
    have HBW4 : Hid (Below w.heap.size w w4) := Lib.hid (HBW3.out.trans (HT4.out.below HBW3.out.size HS2.out))
    have HAP4 : Hid (∀ j, trS T lb D q j → ¬ (S' j ∨ (w3.heap.size ≤ j ∧ j < w4.heap.size))) := Lib.hid (fun j hj hh => by
      rcases hh with y | ⟨y, _⟩
      · exact HAPT.out j hj y
      · have := HTR.out.lt hj; omega)
    have HS4 : Hid (∀ j, (S' j ∨ (w3.heap.size ≤ j ∧ j < w4.heap.size)) → w.heap.size ≤ j) := Lib.hid (fun j hh => by
      rcases hh with y | ⟨y, _⟩
      · exact HS2.out j y
      · have := HBW3.out.size; omega)
    generalize hSS : (fun j => S' j ∨ (w3.heap.size ≤ j ∧ j < w4.heap.size)) = S4 at HBK4
    have HAP5 : Hid (∀ j, trS T lb D q j → ¬ S4 j) := Lib.hid (fun j hj => by rw [← hSS]; exact HAP4.out j hj)
    have HS5 : Hid (∀ j, S4 j → w.heap.size ≤ j) := Lib.hid (fun j => by rw [← hSS]; exact HS4.out j)
    generalize bkT Tx (txt 2 [putL 4 n, F D 0]) = T4 at HBK4
    generalize bkS Tx sh (txt 2 [putL 4 n, F D 0]) = sh4 at HBK4
    have HO8 := Lib.hid (heap_alloc_new w4 (.cells (zeros 32) 34))
    obtain ⟨WX, hWX⟩ : ∃ WX, WX = (w4.alloc (.cells (zeros 32) 34)).setRow w4.heap.size da := ⟨_, rfl⟩
    have hbx : Below w4.heap.size w4 WX := by rw [hWX]; exact below_setRow (g := w4.heap.size) ((Below.refl _ _).alloc (Nat.le_refl _) _) (Nat.le_refl _) da
    obtain ⟨x, hx⟩ : ∃ x, x = w4.heap.size := ⟨_, rfl⟩
    have HPX : Hid (WX.heap[x]? = some (.cells da 34 (0, 0))) := Lib.hid (by rw [hWX, hx]; exact setRow_heap _ _ _ da _ _ HO8.out)
    have HTRX := Lib.hid (htr4.next hbx)
    have HBKX := Lib.hid (HBK4.out.below hbx)
    have HXN : Hid (¬ S4 x) := Lib.hid (fun hj => by have := HBK4.out.sub hj; omega)
    have HXT : Hid (∀ j, trS T lb D q j → j ≠ x) := Lib.hid (fun j hj e => by have := htr4.lt hj; omega)
    have HBWX : Hid (Below w.heap.size w WX) := Lib.hid (HBW4.out.trans (hbx.mono HBW4.out.size))
    have HWX := Lib.hid hWX
    have HXE := Lib.hid hx
    clear hWX hbx hx htr4 hSS HAP4 HS4
    go_upto_region 7 with (with_reducible refine wpList_store_row rfl 34 (.tmp 7) (.tmp 33) rfl _ _ rfl (by simp [Act.eval, Act.put]) 34 _ HO8.out HI.out HZ.out HO.out ?_)
    rw [← HWX.out, ← HXE.out]
    clear HO8
    go_wp2_with fail
    refine (tat_any T b n D lb cap (kk : Int) ls q F WX HTRX.out HF0.out (by omega)).mono ?_
    rintro e w6 ⟨rfl, hb6⟩
    rw [show leafK n ls (kk : Int) = ls kk by unfold leafK; rw [if_pos ⟨by omega, by omega⟩, Int.toNat_natCast]]
    have HB6 := Lib.hid hb6
    obtain ⟨lf, hlf⟩ : ∃ lf, lf = (lfL kk (ls kk)).toArray := ⟨_, rfl⟩
    have HBL : Hid (Tryz.prog.built LfX [(0, .int .i64 (kk : Int)), (1, .agg (dA (ls kk)))] = some lf) := Lib.hid (by rw [hlf]; exact leaf_built _ _)
    have HLS : Hid (lf.size = 33) := Lib.hid (by rw [hlf, List.size_toArray, lfL_len])
    obtain ⟨W7, hW7⟩ : ∃ W7, W7 = w6.alloc (.cells lf LfX) := ⟨_, rfl⟩
    have hb7 : Below w6.heap.size w6 W7 := by rw [hW7]; exact (Below.refl _ _).alloc (Nat.le_refl _) _
    have hx7 : W7.heap[w6.heap.size]? = some (.cells (lfL kk (ls kk)).toArray 40 (0, 0)) := by rw [hW7, ← hlf]; exact heap_alloc_new w6 _
    have HB7 := Lib.hid (hb6.trans (hb7.mono hb6.size))
    have HW7 := Lib.hid hW7
    have HX7 := Lib.hid hx7
    have HTR7 := Lib.hid (HTRX.out.next HB7.out)
    have HBK7 := Lib.hid (HBKX.out.below HB7.out)
    have HBW7 := Lib.hid (HBWX.out.trans (HB7.out.mono HBWX.out.size))
    obtain ⟨xdk, hxdk⟩ : ∃ z, z = dA (ls kk) := ⟨_, rfl⟩
    rw [← hxdk] at HBL
    rw [← hxdk]
    clear hb6 hlf hW7 hb7 hx7 hxdk
    go_wp2_with (first
      | (with_reducible refine wpList_buildL rfl (.tmp 40) rfl lf HLS.out (by simp [Act.eval, Act.put]) ?_)
      | (with_reducible refine wp_build_eq9 rfl LfX #[(0, .tmp 36), (1, .tmp 39)] rfl lf (by first | exact HBL.out | (simp [Act.eval, Act.put]; exact HBL.out)) ?_))
    rw [← HW7.out]
    have HLE : Hid (w6.heap.size < W7.heap.size) := Lib.hid (blk_lt HX7.out)
    have HSX : Hid (WX.heap.size ≤ w6.heap.size) := Lib.hid HB6.out.size
    refine (tset_one T b g n D lb cap kk w6.heap.size q F (ls kk) (HDS.out.2 kk) S4 T4 sh4 W7 HX7.out HTR7.out HBK7.out HAP5.out ⟨fun hj => by have := HBKX.out.sub hj; have := HSX.out; omega, fun d hd e => by
      have h1 := HTRX.out.lt (.inr (.inr ⟨d, hd, rfl⟩) : trS T lb D q (q d))
      have := HSX.out
      omega⟩ hk HRR.out).mono ?_
    rintro e w8 ⟨F8, S8, T8, sh8, rfl, htr8, hrr8, hf8, hbk8, hs8, hap8, ht8⟩
    have HTR8 := Lib.hid htr8
    have HBK8 := Lib.hid hbk8
    have HAP8 := Lib.hid hap8
    have HX8 : Hid (w8.heap[x]? = some (.cells da 34 (0, 0))) := Lib.hid ((ht8.block x (Nat.lt_of_lt_of_le (blk_lt HPX.out) HB7.out.size) (fun hh => by
      rcases hh with y | ⟨d, hd, y⟩
      · exact HXN.out y
      · exact HXT.out (q d) (.inr (.inr ⟨d, hd, rfl⟩)) y.symm)).trans ((HB7.out.block x (blk_lt HPX.out)).trans HPX.out))
    have HBW8 : Hid (Below w.heap.size w w8) := Lib.hid (HBW7.out.trans (ht8.below HBW7.out.size (fun j hh => by
      rcases hh with y | ⟨d, hd, rfl⟩
      · exact HS5.out j y
      · exact HAPW.out _ (.inr (.inr ⟨d, hd, rfl⟩)))))
    have HS8 : Hid (∀ j, S8 j → w.heap.size ≤ j) := Lib.hid (fun j hj => by
      rcases hs8 j hj with y | y
      · exact HS5.out j y
      · have := HBW7.out.size; omega)
    have HXN8 : Hid (¬ S8 x) := Lib.hid (fun hj => by
      rcases hs8 x hj with y | y
      · exact HXN.out y
      · have h1 := blk_lt HPX.out
        have := HB7.out.size
        omega)
    have HF8 : Hid (F8 D 0 = F D 0) := Lib.hid (by
      rw [HFM.out]
      refine right_tree hrr8 (fun i hi => ?_) D 0 (Nat.le_refl _) (by simp)
      rw [hf8 i]
      unfold setF
      by_cases e : i = kk
      · subst e
        rw [if_pos ⟨rfl, rfl⟩]
        unfold mixX
        rw [if_pos hk]
      · rw [if_neg (fun hh => e hh.2)]
        exact HF0.out i hi)
    clear htr8 hrr8 hf8 hbk8 hs8 hap8 ht8
    go_upto_region 8 with (fail)
    refine wp_region_F (S := fun (W : World) => W.heap[x]? = some (.cells da 34 (0, 0))) [] (by kernel_rfl) (HX8.out) (fun hHeld => ?_)
    refine wpAnyF_take (i := 0) (oi := _) (v := ?_) rfl (by kernel_rfl) (by kernel_rfl) (by kernel_rfl) (by kernel_rfl) (fun _ _ _ h => h) (Or.inl ⟨by rfl, ?_⟩) (by assumption) ?_
    rotate_left 1
    · intro w hSw
      (try dsimp only at hSw)
      (first | (go_simp; done) | (go_simp; with_reducible rfl))
    (try simp only [Act.put, List.getElem_toArray, List.getElem_cons_succ, List.getElem_cons_zero, List.setIfInBounds_toArray, List.set_cons_zero, List.set_cons_succ])
    refine wpAnyF_take (i := 1) (oi := _) (v := ?_) rfl (by kernel_rfl) (by kernel_rfl) (by kernel_rfl) (by kernel_rfl) (fun _ _ _ h => h) (Or.inl ⟨by rfl, ?_⟩) (by assumption) ?_
    rotate_left 1
    · intro w hSw
      (try dsimp only at hSw)
      (first | (go_simp; done) | (go_simp; with_reducible rfl))
    (try simp only [Act.put, List.getElem_toArray, List.getElem_cons_succ, List.getElem_cons_zero, List.setIfInBounds_toArray, List.set_cons_zero, List.set_cons_succ])
    refine wpAnyF_take (i := 2) (oi := _) (v := ?_) rfl (by kernel_rfl) (by kernel_rfl) (by kernel_rfl) (by kernel_rfl) (fun _ _ _ h => h) (Or.inl ⟨by rfl, ?_⟩) (by assumption) ?_
    rotate_left 1
    · intro w hSw
      (try dsimp only at hSw)
      (first | (go_simp; done) | (go_simp; with_reducible rfl))
    (try simp only [Act.put, List.getElem_toArray, List.getElem_cons_succ, List.getElem_cons_zero, List.setIfInBounds_toArray, List.set_cons_zero, List.set_cons_succ])
    refine wpAnyF_take (i := 3) (oi := _) (v := ?_) rfl (by kernel_rfl) (by kernel_rfl) (by kernel_rfl) (by kernel_rfl) (fun _ _ _ h => h) (Or.inl ⟨by rfl, ?_⟩) (by assumption) ?_
    rotate_left 1
    · intro w hSw
      (try dsimp only at hSw)
      (first | (go_simp; done) | (go_simp; with_reducible rfl))
    (try simp only [Act.put, List.getElem_toArray, List.getElem_cons_succ, List.getElem_cons_zero, List.setIfInBounds_toArray, List.set_cons_zero, List.set_cons_succ])
    refine wpAnyF_take (i := 4) (oi := _) (v := ?_) rfl (by kernel_rfl) (by kernel_rfl) (by kernel_rfl) (by kernel_rfl) (fun _ _ _ h => h) (Or.inl ⟨by rfl, ?_⟩) (by assumption) ?_
    rotate_left 1
    · intro w hSw
      (try dsimp only at hSw)
      (first | (go_simp; done) | (go_simp; with_reducible rfl))
    (try simp only [Act.put, List.getElem_toArray, List.getElem_cons_succ, List.getElem_cons_zero, List.setIfInBounds_toArray, List.set_cons_zero, List.set_cons_succ])
    refine wpAnyF_take (i := 5) (oi := _) (v := ?_) rfl (by kernel_rfl) (by kernel_rfl) (by kernel_rfl) (by kernel_rfl) (fun _ _ _ h => h) (Or.inl ⟨by rfl, ?_⟩) (by assumption) ?_
    rotate_left 1
    · intro w hSw
      (try dsimp only at hSw)
      (first | (go_simp; done) | (go_simp; with_reducible rfl))
    (try simp only [Act.put, List.getElem_toArray, List.getElem_cons_succ, List.getElem_cons_zero, List.setIfInBounds_toArray, List.set_cons_zero, List.set_cons_succ])
    refine wpAnyF_ready (rs := [6]) (by kernel_rfl) (by simp) ?_
    refine AllReadyF.cons (o := _) rfl (fun K hK => ?_) AllReadyF.nil
    go_simp
    (go_at_call 12)
    refine (HDR.out _).mono ?_
    rintro e v6 ⟨rfl, rfl⟩
    refine hK.out _ _ (HX8.out) (fun hHeld6 => ?_)
    clear hK K
    (try simp only [Act.put, List.getElem_toArray, List.getElem_cons_succ, List.getElem_cons_zero, List.setIfInBounds_toArray, List.set_cons_zero, List.set_cons_succ])
    refine wpAnyF_take (i := 7) (oi := _) (v := ?_) rfl (by kernel_rfl) (by kernel_rfl) (by kernel_rfl) (by kernel_rfl) (fun _ _ _ h => h) (Or.inl ⟨by rfl, ?_⟩) (by assumption) ?_
    rotate_left 1
    · intro w hSw
      (try dsimp only at hSw)
      (first | (go_simp; done) | (go_simp; with_reducible rfl))
    (try simp only [Act.put, List.getElem_toArray, List.getElem_cons_succ, List.getElem_cons_zero, List.setIfInBounds_toArray, List.set_cons_zero, List.set_cons_succ])
    refine wpAnyF_take (i := 8) (oi := _) (v := ?_) rfl (by kernel_rfl) (by kernel_rfl) (by kernel_rfl) (by kernel_rfl) (fun _ _ _ h => h) (Or.inl ⟨by rfl, ?_⟩) (by assumption) ?_
    rotate_left 1
    · intro w hSw
      (try dsimp only at hSw)
      (first | (go_simp; done) | (go_simp; with_reducible rfl))
    (try simp only [Act.put, List.getElem_toArray, List.getElem_cons_succ, List.getElem_cons_zero, List.setIfInBounds_toArray, List.set_cons_zero, List.set_cons_succ])
    refine wpAnyF_take (i := 9) (oi := _) (v := ?_) rfl (by kernel_rfl) (by kernel_rfl) (by kernel_rfl) (by kernel_rfl) (fun _ _ _ h => h) (Or.inl ⟨by rfl, ?_⟩) (by assumption) ?_
    rotate_left 1
    · intro w hSw
      (try dsimp only at hSw)
      (first | (go_simp; done) | (go_simp; with_reducible rfl))
    (try simp only [Act.put, List.getElem_toArray, List.getElem_cons_succ, List.getElem_cons_zero, List.setIfInBounds_toArray, List.set_cons_zero, List.set_cons_succ])
    refine wpAnyF_take (i := 10) (oi := _) (v := ?_) rfl (by kernel_rfl) (by kernel_rfl) (by kernel_rfl) (by kernel_rfl) (fun _ _ _ h => h) (Or.inl ⟨by rfl, ?_⟩) (by assumption) ?_
    rotate_left 1
    · intro w hSw
      (try dsimp only at hSw)
      (first | (go_simp; done) | (go_simp; with_reducible rfl))
    (try simp only [Act.put, List.getElem_toArray, List.getElem_cons_succ, List.getElem_cons_zero, List.setIfInBounds_toArray, List.set_cons_zero, List.set_cons_succ])
    refine wpAnyF_take (i := 11) (oi := _) (v := ?_) rfl (by kernel_rfl) (by kernel_rfl) (by kernel_rfl) (by kernel_rfl) (fun _ _ _ h => h) (Or.inl ⟨by rfl, ?_⟩) (by assumption) ?_
    rotate_left 1
    · intro w hSw
      (try dsimp only at hSw)
      (first | (go_simp; done) | (go_simp; with_reducible rfl))
    (try simp only [Act.put, List.getElem_toArray, List.getElem_cons_succ, List.getElem_cons_zero, List.setIfInBounds_toArray, List.set_cons_zero, List.set_cons_succ])
    refine wpAnyF_take (i := 12) (oi := _) (v := ?_) rfl (by kernel_rfl) (by kernel_rfl) (by kernel_rfl) (by kernel_rfl) (fun _ _ _ h => h) (Or.inl ⟨by rfl, ?_⟩) (by assumption) ?_
    rotate_left 1
    · intro w hSw
      (try dsimp only at hSw)
      (first | (go_simp; done) | (go_simp; with_reducible rfl))
    (try simp only [Act.put, List.getElem_toArray, List.getElem_cons_succ, List.getElem_cons_zero, List.setIfInBounds_toArray, List.set_cons_zero, List.set_cons_succ])
    refine wpAnyF_ready (rs := [13]) (by kernel_rfl) (by simp) ?_
    refine AllReadyF.cons (o := _) rfl (fun K hK => ?_) AllReadyF.nil
    go_simp
    (go_at_call 13)
    refine (tpath_any T b n D lb cap kk q F8 w8.drew (HTR8.out.next ((Below.refl _ _).drew)) hk (by omega)).mono ?_
    rintro e v13 ⟨A13, c13, rfl, hc13, hd13, hb13, hnw13⟩
    have HB13 := Lib.hid (((Below.refl w8.heap.size w8).drew).trans hb13)
    have HX13 := Lib.hid ((HB13.out.block _ (blk_lt HX8.out)).trans HX8.out)
    clear hc13 hd13 hb13 hnw13
    refine hK.out _ _ (HX13.out) (fun hHeld13 => ?_)
    clear hK K
    (try simp only [Act.put, List.getElem_toArray, List.getElem_cons_succ, List.getElem_cons_zero, List.setIfInBounds_toArray, List.set_cons_zero, List.set_cons_succ])
    refine wpAnyF_take (i := 14) (oi := _) (v := ?_) rfl (by kernel_rfl) (by kernel_rfl) (by kernel_rfl) (by kernel_rfl) (fun _ _ _ h => h) (Or.inl ⟨by rfl, ?_⟩) (by assumption) ?_
    rotate_left 1
    · intro w hSw
      (try dsimp only at hSw)
      (first | (go_simp; done) | (go_simp; with_reducible rfl))
    (try simp only [Act.put, List.getElem_toArray, List.getElem_cons_succ, List.getElem_cons_zero, List.setIfInBounds_toArray, List.set_cons_zero, List.set_cons_succ])
    refine wpAnyF_take (i := 15) (oi := _) (v := ?_) rfl (by kernel_rfl) (by kernel_rfl) (by kernel_rfl) (by kernel_rfl) (fun _ _ _ h => h) (Or.inl ⟨by rfl, ?_⟩) (by assumption) ?_
    rotate_left 1
    · intro w hSw
      (try dsimp only at hSw)
      (first | (go_simp; done) | (go_simp; with_reducible rfl))
    (try simp only [Act.put, List.getElem_toArray, List.getElem_cons_succ, List.getElem_cons_zero, List.setIfInBounds_toArray, List.set_cons_zero, List.set_cons_succ])
    refine wpAnyF_take (i := 16) (oi := _) (v := ?_) rfl (by kernel_rfl) (by kernel_rfl) (by kernel_rfl) (by kernel_rfl) (fun _ _ _ h => h) (Or.inl ⟨by rfl, ?_⟩) (by assumption) ?_
    rotate_left 1
    · intro w hSw
      (try dsimp only at hSw)
      (first | (go_simp; done) | (go_simp; with_reducible rfl))
    (try simp only [Act.put, List.getElem_toArray, List.getElem_cons_succ, List.getElem_cons_zero, List.setIfInBounds_toArray, List.set_cons_zero, List.set_cons_succ])
    refine wpAnyF_take (i := 17) (oi := _) (v := ?_) rfl (by kernel_rfl) (by kernel_rfl) (by kernel_rfl) (by kernel_rfl) (fun _ _ _ h => h) (Or.inl ⟨by rfl, ?_⟩) (by assumption) ?_
    rotate_left 1
    · intro w hSw
      (try dsimp only at hSw)
      (first | (go_simp; done) | (go_simp; with_reducible rfl))
    (try simp only [Act.put, List.getElem_toArray, List.getElem_cons_succ, List.getElem_cons_zero, List.setIfInBounds_toArray, List.set_cons_zero, List.set_cons_succ])
    refine wpAnyF_take (i := 18) (oi := _) (v := ?_) rfl (by kernel_rfl) (by kernel_rfl) (by kernel_rfl) (by kernel_rfl) (fun _ _ _ h => h) (Or.inl ⟨by rfl, ?_⟩) (by assumption) ?_
    rotate_left 1
    · intro w hSw
      (try dsimp only at hSw)
      (first | (go_simp; done) | (go_simp; with_reducible rfl))
    (try simp only [Act.put, List.getElem_toArray, List.getElem_cons_succ, List.getElem_cons_zero, List.setIfInBounds_toArray, List.set_cons_zero, List.set_cons_succ])
    refine wpAnyF_take (i := 20) (oi := _) (v := _) rfl (by kernel_rfl) (by kernel_rfl) (by kernel_rfl) (by kernel_rfl) (fun _ _ _ h => h) (yields_rowU (by with_unfolding_all rfl) 34 (.tmp 7) rfl x 0 rfl da _ (fun W h => range_cells h) Tryz.underlying34 rfl HI.out) (by assumption) ?_
    (try simp only [Act.put, List.getElem_toArray, List.getElem_cons_succ, List.getElem_cons_zero, List.setIfInBounds_toArray, List.set_cons_zero, List.set_cons_succ])
    refine wpAnyF_ready (rs := [19]) (by kernel_rfl) (by simp) ?_
    refine AllReadyF.cons (o := _) rfl (fun K hK => ?_) AllReadyF.nil
    go_simp
    (go_at_call 9)
    refine (troot_m T b g n D lb cap q F8 S8 T8 sh8 v13 (HTR8.out.next HB13.out) (HBK8.out.below HB13.out) (HAP8.out T (.inl rfl)) (by omega)).mono ?_
    intro e v19 hsum
    have HT19 := Lib.hid hsum.2.1
    have he := hsum.1
    subst he
    rw [HF8.out, ← HDA.out]
    clear hsum
    have HBW13 := Lib.hid (HBW8.out.trans (HB13.out.mono HBW8.out.size))
    have HBW19 : Hid (Below w.heap.size w v19) := Lib.hid (HBW13.out.trans (Turns.below HT19.out HBW13.out.size HS8.out))
    have HX19 : Hid (v19.heap[x]? = some (.cells da 34 (0, 0))) := Lib.hid ((HT19.out.block _ (blk_lt HX13.out) (fun hj => HXN8.out hj)).trans HX13.out)
    refine hK.out _ _ (HX19.out) (fun hHeld19 => ?_)
    clear hK K
    (try simp only [Act.put, List.getElem_toArray, List.getElem_cons_succ, List.getElem_cons_zero, List.setIfInBounds_toArray, List.set_cons_zero, List.set_cons_succ])
    refine wpAnyF_take (i := 21) (oi := _) (v := _) rfl (by kernel_rfl) (by kernel_rfl) (by kernel_rfl) (by kernel_rfl) (fun _ _ _ h => h) (.inl ⟨by with_unfolding_all rfl, fun w h => exec_bin .eql 34 34 (.tmp 64) (.tmp 65) rfl (.agg da) (.agg da) (.bool true) rfl rfl (bk_guard _ _ _ _ _) (HEQ2.out w)⟩) (by assumption) ?_
    (try simp only [Act.put, List.getElem_toArray, List.getElem_cons_succ, List.getElem_cons_zero, List.setIfInBounds_toArray, List.set_cons_zero, List.set_cons_succ])
    refine wpAnyF_take (i := 22) (oi := _) (v := ?_) rfl (by kernel_rfl) (by kernel_rfl) (by kernel_rfl) (by kernel_rfl) (fun _ _ _ h => h) (Or.inl ⟨by rfl, ?_⟩) (by assumption) ?_
    rotate_left 1
    · intro w hSw
      (try dsimp only at hSw)
      (first | (go_simp; done) | (go_simp; with_reducible rfl))
    (try simp only [Act.put, List.getElem_toArray, List.getElem_cons_succ, List.getElem_cons_zero, List.setIfInBounds_toArray, List.set_cons_zero, List.set_cons_succ])
    refine wpAnyF_take (i := 23) (oi := _) (v := ?_) rfl (by kernel_rfl) (by kernel_rfl) (by kernel_rfl) (by kernel_rfl) (fun _ _ _ h => h) (Or.inl ⟨by rfl, ?_⟩) (by assumption) ?_
    rotate_left 1
    · intro w hSw
      (try dsimp only at hSw)
      (first | (go_simp; done) | (go_simp; with_reducible rfl))
    (try simp only [Act.put, List.getElem_toArray, List.getElem_cons_succ, List.getElem_cons_zero, List.setIfInBounds_toArray, List.set_cons_zero, List.set_cons_succ])
    refine wpAnyF_ready (rs := [24]) (by kernel_rfl) (by simp) ?_
    refine AllReadyF.cons (o := _) rfl (fun K hK => ?_) AllReadyF.nil
    go_simp
    (go_at_call 8)
    refine (awake12_any _).mono ?_
    rintro e wz ⟨rfl, hbz⟩
    have HBZ := Lib.hid (HBW19.out.trans (hbz.mono HBW19.out.size))
    have HPZ := Lib.hid ((hbz.block _ (blk_lt HX19.out)).trans HX19.out)
    clear hbz
    refine hK.out _ _ (HPZ.out) (fun hHeld24 => ?_)
    clear hK K
    (try simp only [Act.put, List.getElem_toArray, List.getElem_cons_succ, List.getElem_cons_zero, List.setIfInBounds_toArray, List.set_cons_zero, List.set_cons_succ])
    refine wpAnyF_take (i := 25) (oi := _) (v := ?_) rfl (by kernel_rfl) (by kernel_rfl) (by kernel_rfl) (by kernel_rfl) (fun _ _ _ h => h) (Or.inl ⟨by rfl, ?_⟩) (by assumption) ?_
    rotate_left 1
    · intro w hSw
      (try dsimp only at hSw)
      (first | (go_simp; done) | (go_simp; with_reducible rfl))
    (try simp only [Act.put, List.getElem_toArray, List.getElem_cons_succ, List.getElem_cons_zero, List.setIfInBounds_toArray, List.set_cons_zero, List.set_cons_succ])
    refine wpAnyF_take (i := 26) (oi := _) (v := ?_) rfl (by kernel_rfl) (by kernel_rfl) (by kernel_rfl) (by kernel_rfl) (fun _ _ _ h => h) (Or.inl ⟨by rfl, ?_⟩) (by assumption) ?_
    rotate_left 1
    · intro w hSw
      (try dsimp only at hSw)
      (first | (go_simp; done) | (go_simp; with_reducible rfl))
    (try simp only [Act.put, List.getElem_toArray, List.getElem_cons_succ, List.getElem_cons_zero, List.setIfInBounds_toArray, List.set_cons_zero, List.set_cons_succ])
    refine wpAnyF_done (by kernel_rfl) ?_ _
    clear hHeld hHeld6 hHeld13 hHeld19 hHeld24
    go_wp2
    go_ret
    exact ⟨rfl, HBZ.out⟩
theorem treeOne_any (n c : Nat) (A : Option Addr) (ls : Nat → List Nat) (k : Int) (w : World) (hds : DgS w A n ls) (hc : n ≤ c) (hc9 : c ≤ 9223372036854775807) :
    Calls Tryz.prog 3 #[.slice A n c, .int .i64 k] w fun e w' => e = .returned (.bool true) ∧ Below w.heap.size w w' := by
  by_cases hn : n ≤ 20
  · exact treeOne_20 n n c A ls k w (few_small n c A w hn) hds hn hc
  · obtain ⟨b, o, rfl, h1, h2⟩ := hds.1 (by omega)
    refine treeOne_20 n 20 c (some ⟨b, o, none⟩) ls k w (few_big n c b o w (by omega) hc hc9) ⟨fun _ => ⟨b, o, rfl, h1, fun j hj => h2 j (by omega)⟩, hds.2⟩ (by omega) (by omega)
end
end Go.Proofs.YtoclelpmampikaaGreat
