/-
  Joined: TwT, TwU, TwW, TwX, TwD2, TwP, TwQ, TpA, TpB, TpC, TpD.
-/
import Derived.Test.YtehdfbmkckillaaGreatTwZ5
import Derived.WalkKit
import Derived.ProofKit
import Derived.OpenShut
import Derived.Deep.Slices
import Derived.Deep.Fields
import Derived.ChangeSame
import Derived.Lib.Tables
namespace Go.Proofs.YtehdfbmkckillaaGreat
set_option maxRecDepth 100000
section
open Go.RowKit Go
set_option linter.unusedVariables false
set_option linter.unusedSimpArgs false
theorem zero32_cells : dA zero32L = zeros 32 := by kernel_rfl
set_option maxHeartbeats 1000000 in
set_option maxRecDepth 100000 in
theorem tnode_out (T b n D lb cap : Nat) (k : Int) (q : Nat → Nat) (F : Nat → Nat → List Nat) (w : World) (h : TrB w T b n D lb cap q F) (hk : k < 0 ∨ (2 : Int) ^ D ≤ k) (hkb : k ≤ 9223372036854775807) :
    Calls Tryz.prog 23 #[.pointer (some ⟨T, 0, none⟩), .int .i64 0, .int .i64 k] w fun e w' => e = .returned (.agg (zeros 32)) ∧ Below w.heap.size w w' := by
  have hz := zero_dig
  have hb1 : Below w.heap.size w (w.alloc (.cells (zeros 32) DgT)) := (Below.refl _ _).alloc (Nat.le_refl _) _
  have h1 := h.next hb1
  have k2 := h1.c2
  have kr := h1.row 0 (Nat.zero_le _)
  rw [Nat.sub_zero] at kr
  have HN := Lib.hid (tnone_any T b n D lb cap q F _ h1)
  have HDP := Lib.hid (tdepth_any T b n D lb cap q F _ h1)
  have hD := h.D5
  have hN : ∃ N : Nat, N = 2 ^ D := ⟨_, rfl⟩
  obtain ⟨N, hN⟩ := hN
  have hNi : ((2 : Int) ^ D) = (N : Int) := by rw [hN]; push_cast; rfl
  rw [hNi] at hk
  rw [← hN] at kr
  have HI := Lib.hid (info_dig (cs := zeros 32) (by simp [zeros]))
  have HO : Hid ((zeros 32).all (·.oneCell') = true) := Lib.hid (by kernel_rfl)
  have HX := Lib.hid (heap_alloc_new w (.cells (zeros 32) DgT))
  have HFX := Lib.hid (setRow_heap _ _ _ (zeros 32) _ _ (heap_alloc_new w (.cells (zeros 32) DgT)))
  have HFB := Lib.hid (below_setRow (g := w.heap.size) hb1 (Nat.le_refl _) (zeros 32))
  have a2 : decide ((D : Int) < 0) = false := decide_eq_false (by omega)
  clear h h1 hb1 hN hNi
  rcases hk with hk | hk
  · have a3 : decide (k < 0) = true := decide_eq_true hk
    go_enter Tryz.func23, Tryz.ntmps23
    go_wp2_with fail
    refine HN.out.mono ?_
    rintro e w' ⟨rfl, rfl⟩
    go_wp2_with fail
    refine HDP.out.mono ?_
    rintro e w' ⟨rfl, rfl⟩
    go_wp2_with (with_reducible refine wpList_store_row rfl DgT (.tmp 6) (.tmp 35) rfl _ _ rfl rfl DgT _ HX.out HI.out rfl HO.out ?_)
    exact bodyPost_ret (v := .agg (zeros 32)) (results_cell_row rfl _ _ _ DgT _ (0, 0) _ rfl HFX.out Tryz.underlying36 rfl HI.out) rfl ⟨rfl, HFB.out⟩
  · have a3 : decide (k < 0) = false := decide_eq_false (by omega)
    have a4 : decide ((N : Int) ≤ k) = true := decide_eq_true hk
    go_enter Tryz.func23, Tryz.ntmps23
    go_wp2_with fail
    refine HN.out.mono ?_
    rintro e w' ⟨rfl, rfl⟩
    go_wp2_with fail
    refine HDP.out.mono ?_
    rintro e w' ⟨rfl, rfl⟩
    go_wp2_with (with_reducible refine wpList_store_row rfl DgT (.tmp 6) (.tmp 35) rfl _ _ rfl rfl DgT _ HX.out HI.out rfl HO.out ?_)
    exact bodyPost_ret (v := .agg (zeros 32)) (results_cell_row rfl _ _ _ DgT _ (0, 0) _ rfl HFX.out Tryz.underlying36 rfl HI.out) rfl ⟨rfl, HFB.out⟩
/-- leaf k of n, or noughts -/
def leafK (n : Nat) (ls : Nat → List Nat) (k : Int) : List Nat := if 0 ≤ k ∧ k < (n : Int) then ls k.toNat else zero32L
theorem tat_any (T b n D lb cap : Nat) (k : Int) (ls : Nat → List Nat) (q : Nat → Nat) (F : Nat → Nat → List Nat) (w : World) (h : TrB w T b n D lb cap q F) (hf : ∀ i, i < 2 ^ D → F 0 i = mixX n ls i) (hkb : k ≤ 9223372036854775807) :
    Calls Tryz.prog 12 #[.pointer (some ⟨T, 0, none⟩), .int .i64 k] w fun e w' => e = .returned (.agg (dA (leafK n ls k))) ∧ Below w.heap.size w w' := by
  have hz := zero_dig
  obtain ⟨W0, hW0⟩ : ∃ W0, W0 = w.alloc (.cells (zeros 32) DgT) := ⟨_, rfl⟩
  have hb1 : Below w.heap.size w W0 := by rw [hW0]; exact (Below.refl _ _).alloc (Nat.le_refl _) _
  have h1 := h.next hb1
  have key : Calls Tryz.prog 23 #[.pointer (some ⟨T, 0, none⟩), .int .i64 0, .int .i64 k] W0 fun e w' => e = .returned (.agg (dA (leafK n ls k))) ∧ Below W0.heap.size W0 w' := by
    by_cases hk : k < 0 ∨ (2 : Int) ^ D ≤ k
    · refine (tnode_out T b n D lb cap k q F W0 h1 hk hkb).mono ?_
      rintro e w' ⟨he, hb⟩
      have e1 : leafK n ls k = zero32L := by
        unfold leafK
        rw [if_neg]
        intro c
        have hn := h.n1.2
        have hn2 : (n : Int) ≤ (2 : Int) ^ D := by exact_mod_cast hn
        omega
      rw [e1, zero32_cells]
      exact ⟨he, hb⟩
    · obtain ⟨i, rfl⟩ : ∃ i : Nat, k = (i : Int) := ⟨k.toNat, by omega⟩
      have hi : i < 2 ^ D := by
        have : (i : Int) < (2 : Int) ^ D := by omega
        exact_mod_cast this
      refine (tnode_in T b n D lb cap 0 i q F W0 h1 (Nat.zero_le _) (by rw [Nat.sub_zero]; exact hi)).mono ?_
      rintro e w' ⟨he, hb⟩
      rw [hf i hi] at he
      have e1 : leafK n ls (i : Int) = mixX n ls i := by
        unfold leafK mixX
        by_cases c : i < n
        · rw [if_pos c, if_pos ⟨by omega, by omega⟩, Int.toNat_natCast]
        · rw [if_neg c, if_neg (fun x => by omega)]
      rw [e1]
      exact ⟨he, hb⟩
  have KEY := Lib.hid key
  have HX : Hid (W0.heap[w.heap.size]? = some (.cells (zeros 32) DgT (0, 0))) := Lib.hid (by rw [hW0]; exact heap_alloc_new w _)
  have HB1 := Lib.hid hb1
  obtain ⟨xd, hxd⟩ : ∃ z, z = dA (leafK n ls k) := ⟨_, rfl⟩
  have hx2 : xd.size = 32 := by rw [hxd, rowV_size]
  have HI := Lib.hid (info_dig hx2)
  have HO : Hid (xd.all (·.oneCell') = true) := Lib.hid (by rw [hxd]; exact dA_one _)
  have HZ : Hid ((zeros 32).size = xd.size) := Lib.hid (by rw [hx2]; simp [zeros])
  have HW0 := Lib.hid hW0
  rw [← hxd] at KEY ⊢
  clear h h1 hb1 key hW0 hxd hx2 hf
  go_enter Tryz.func12, Tryz.ntmps12
  go_wp2_with fail
  rw [← HW0.out]
  refine KEY.out.mono ?_
  rintro e w3 ⟨rfl, hb4⟩
  have HX4 : Hid (w3.heap[w.heap.size]? = some (.cells (zeros 32) DgT (0, 0))) := Lib.hid ((hb4.block _ (blk_lt HX.out)).trans HX.out)
  have HFX := Lib.hid (setRow_heap _ _ _ xd _ _ HX4.out)
  have HFB := Lib.hid (below_setRow (g := w.heap.size) (HB1.out.trans (hb4.mono HB1.out.size)) (Nat.le_refl _) xd)
  clear hb4
  go_wp2_with (with_reducible refine wpList_store_row rfl DgT (.tmp 4) (.tmp 7) rfl _ _ rfl rfl DgT _ HX4.out HI.out HZ.out HO.out ?_)
  exact bodyPost_ret (v := .agg xd) (results_cell_row rfl _ _ _ DgT _ (0, 0) _ rfl HFX.out Tryz.underlying36 rfl HI.out) rfl ⟨rfl, HFB.out⟩
end
section
open Go.RowKit Go
set_option linter.unusedVariables false
set_option linter.unusedSimpArgs false
theorem fill_one (xd : Array Value) (hx : xd.size = 32) : Instr.fill (fun i => some (i * 32, 32)) ((Array.range (1 * 32)).map ((Value.agg (zeros 32)).cells[· % (Value.agg (zeros 32)).cells.size]!)) [(0, .agg xd)] = some xd := by
  have h := Go.Great.fill_whole (s := 32) (by omega) [.agg xd] ((Array.range (1 * 32)).map ((Value.agg (zeros 32)).cells[· % (Value.agg (zeros 32)).cells.size]!)) (fun v hv => by
    have e : v = .agg xd := by simpa using hv
    rw [e]; exact hx) (by simp)
  have e1 : (([Value.agg xd].flatMap fun v => v.cells.toList).toArray) = xd := by simp [Value.cells]
  rw [e1] at h
  exact h
theorem wpList_build1 {ops : Array Oper} {rest : List Oper} {o : Oper} {a : Act} {w : World} {Q : Exit → Act → World → Prop} (hg : o.guard = none) (x : Operand) (ho : o.op = .buildSlice 30 1 #[(0, x)]) (xd : Array Value) (hx2 : xd.size = 32) (hx : a.eval x = .agg xd)
    (h : wpList Tryz.prog ops Q rest (a.put o.dst (.slice (some ⟨w.heap.size, 0, none⟩) 1 1)) (w.alloc (.cells xd DgT))) : wpList Tryz.prog ops Q (o :: rest) a w := by
  obtain ⟨ie, h0, h1, h2, h3⟩ := info_parts dg_info
  refine wpList_buildSlice hg 30 DgT 1 #[(0, x)] ho xd ie _ Tryz.underlying30 h0 h1 (by rw [h2]; omega) (by rw [h2]; omega) ?_ h
  rw [h2]
  simp only [List.map_toArray, List.map_cons, List.map_nil, hx]
  exact fill_one xd hx2
def flatD (ls : Nat → List Nat) (k : Nat) : List Value := (List.range k).flatMap fun i => (dA (ls i)).toList
theorem flatD_snoc (ls : Nat → List Nat) (k : Nat) : flatD ls (k + 1) = flatD ls k ++ (dA (ls k)).toList := by
  unfold flatD
  rw [List.range_succ, List.flatMap_append]
  simp
theorem flatD_len (ls : Nat → List Nat) : ∀ k, (flatD ls k).length = k * 32
  | 0 => by simp [flatD]
  | k + 1 => by rw [flatD_snoc, List.length_append, flatD_len ls k, Array.length_toList, rowV_size]; omega
theorem flatD_at (ls : Nat → List Nat) (i j : Nat) (hj : j < 32) : ∀ n, i < n → (flatD ls n)[i * 32 + j]? = (dA (ls i)).toList[j]?
  | 0, h => by omega
  | n + 1, h => by
    rw [flatD_snoc]
    by_cases e : i = n
    · subst e
      rw [List.getElem?_append_right (by rw [flatD_len]; omega), flatD_len, show i * 32 + j - i * 32 = j by omega]
    · rw [List.getElem?_append_left (by rw [flatD_len]; omega)]
      exact flatD_at ls i j hj n (by omega)
theorem wp_appD {ops : Array Oper} {rest : List Oper} {o : Oper} {a : Act} {Q : Exit → Act → World → Prop} (W : World) (hgd : o.guard = none) (s x : Operand)
    (ho : o.op = .call { callee := .builtin .append, args := #[s, x], argTypes := #[30, 30] })
    (B : Nat) (v : Value) (n : Nat) (xs : List Value) (xd : Array Value) (hx32 : xd.size = 32) (hone : xd.all (·.oneCell') = true) (hs : a.eval s = v) (hown : W.ownsRow B DgT 32 v n xs)
    (hx : a.eval x = .slice (some ⟨W.heap.size, 0, none⟩) 1 1) (hn : n < 1000) (hB : B ≤ W.heap.size)
    (h : ∀ v' w', w'.ownsRow B DgT 32 v' (n + 1) (xs ++ xd.toList) → Below B W w' → wpList Tryz.prog ops Q rest (a.put o.dst v') w') :
    wpList Tryz.prog ops Q (o :: rest) a (W.alloc (.cells xd DgT)) := by
  obtain ⟨i0, hi, hz0, hz1, hz2⟩ := info_parts dg_info
  have hnb := heap_alloc_new W (.cells xd DgT)
  refine wpList_append_own _ hgd s x 30 ho B DgT i0 (.agg (zeros 32)) 32 32 Tryz.underlying30 hi hz0 hz1 hz2 (by simp [Value.cells, zeros]) (by decide) v n xs hs (World.ownsRow.alloc hown _) ⟨W.heap.size, 0, none⟩ 1 1
    xd.toList hx (by rw [Array.length_toList]; omega) ?_ ?_ (by unfold maxLen; omega) (by omega) (by simp; omega) ?_
  · intro j u hj
    have e : (⟨W.heap.size, 0, none⟩ : Addr).add j = ⟨W.heap.size, j, none⟩ := by unfold Addr.add; split <;> simp_all
    rw [e, blk_cell hnb j]
    simpa using hj
  · intro u hu
    exact (Array.all_eq_true_iff_forall_mem.1 hone) u (by simpa using hu)
  · intro v' w1 hown' hg _
    exact h v' w1 hown' (((Below.refl B W).alloc hB _).grown hg (by simp; omega) (fun k hk => (World.ownsRow.lt hown k hk).1))
def DigTo (w : World) (n : Nat) (ls : Nat → List Nat) (e : Ending) (w' : World) : Prop := ∃ A c, e = .returned (.slice A n c) ∧ n ≤ c ∧ DgS w' A n ls ∧ Below w.heap.size w w'
theorem tdig_end {w W : World} {n : Nat} {ls : Nat → List Nat} {v : Value} (h : W.ownsRow w.heap.size DgT 32 v n (flatD ls n)) (hb : Below w.heap.size w W) (hd : ∀ k, IsDig (ls k)) : DigTo w n ls (.returned v) W := by
  by_cases hn : 0 < n
  · obtain ⟨g, cap, hv, hg, hgl, hc, hm, hx⟩ := own_at h hn
    refine ⟨_, cap, by rw [hv], hc, ⟨fun _ => ⟨g, 0, rfl, hgl, fun k hk j u hu => ?_⟩, hd⟩, hb⟩
    have hj : j < 32 := by have := (List.getElem?_eq_some_iff.1 hu).1; simpa [rowV_size] using this
    rw [show 0 + k * 32 + j = k * 32 + j by omega]
    exact hx _ _ ((flatD_at ls k j hj n hk).trans hu)
  · obtain rfl : n = 0 := by omega
    obtain ⟨h1, h2⟩ := h
    rcases h2 with ⟨h2, _⟩ | ⟨g, cap, cur, hv, hbg, hh, hnc, hm, _⟩
    · exact ⟨none, 0, by rw [h2], Nat.le_refl _, ⟨fun c => by omega, hd⟩, hb⟩
    · exact ⟨_, cap, by rw [hv], Nat.zero_le _, ⟨fun c => by omega, hd⟩, hb⟩
set_option maxHeartbeats 2000000 in
set_option maxRecDepth 100000 in
theorem digests_any (n c : Nat) (A : Option Addr) (ls : Nat → List Nat) (w : World) (h : DgS w A n ls) (hn : n ≤ 20) :
    Calls Tryz.prog 7 #[.slice A n c] w (DigTo w n ls) := by
  have hz := zero32
  have HH := Lib.hid h
  clear h
  go_enter Tryz.func7, Tryz.ntmps7
  go_wp2_with fail
  go_loopg [3, 8] n (fun gk v iv W => ∃ k : Nat, iv = .int .i64 (k : Int) ∧ k + gk = n ∧ W.ownsRow w.heap.size DgT 32 v k (flatD ls k) ∧ Below w.heap.size w W)
  case atStart => exact ⟨0, rfl, by omega, World.ownsRow_nil _ _ _ _, Below.refl _ _⟩
  case round =>
    obtain ⟨k, rfl, hk, hown, hb⟩ := hrel
    have HOW := Lib.hid hown
    have HB := Lib.hid hb
    clear hown hb
    by_cases hlt : k < n
    · obtain ⟨b, o, rfl, hbl, hrg⟩ := HH.out.1 (by omega)
      obtain ⟨xd, hxd⟩ : ∃ z, z = dA (ls k) := ⟨_, rfl⟩
      have hx2 : xd.size = 32 := by rw [hxd, rowV_size]
      have HI := Lib.hid (info_d32 hx2)
      have HIL : Hid ((Tryz.prog.info? 35).map (·.size) = some xd.toList.length) := Lib.hid (by rw [Array.length_toList]; exact info_d32 hx2)
      have hone : xd.all (·.oneCell') = true := by rw [hxd]; exact dA_one _
      have HO := Lib.hid hone
      have HX2 := Lib.hid hx2
      have HZ : Hid ((zeros 32).size = xd.size) := Lib.hid (by rw [hx2]; simp [zeros])
      have HR : Hid (wr.rangeAt b (o + k * 32) xd.toList) := Lib.hid (by rw [hxd]; exact range_of (HB.out.block b hbl) (hrg k hlt))
      have hxa : xd.toList.toArray = xd := by simp
      have ho8 := heap_alloc_new wr (.cells (zeros 32) 35)
      have HO8 := Lib.hid ho8
      obtain ⟨V8, hV8⟩ : ∃ V8, V8 = (wr.alloc (.cells (zeros 32) 35)).setRow wr.heap.size xd := ⟨_, rfl⟩
      have hb8 : Below wr.heap.size wr V8 := by rw [hV8]; exact below_setRow (g := wr.heap.size) ((Below.refl _ _).alloc (Nat.le_refl _) _) (Nat.le_refl _) xd
      have HP8 : Hid (V8.heap[wr.heap.size]? = some (.cells xd 35 (0, 0))) := Lib.hid (by rw [hV8]; exact setRow_heap _ _ _ xd _ _ ho8)
      have hown8 : V8.ownsRow w.heap.size DgT 32 u3 k (flatD ls k) := by
        obtain ⟨a1, a2⟩ := HOW.out
        refine ⟨a1, ?_⟩
        rcases a2 with a2 | ⟨g, cap, cur, hv, hbg, hh, hr⟩
        · exact .inl a2
        · exact .inr ⟨g, cap, cur, hv, hbg, (hb8.block g (blk_lt hh)).trans hh, hr⟩
      have HOW8 := Lib.hid hown8
      have HB8 := Lib.hid (HB.out.trans (hb8.mono HB.out.size))
      have HXD := Lib.hid hxd
      have HV8 := Lib.hid hV8
      clear hrg hxd hx2 hone ho8 hV8 hb8 hown8
      go_wp2_with (first
        | (with_reducible refine wpList_load_mid rfl 35 (.tmp 10) rfl b (o + k * 32) rfl xd.toList _ HR.out Tryz.underlying35 rfl HIL.out ?_)
        | (with_reducible refine wpList_store_row rfl 35 (.tmp 5) (.tmp 11) rfl _ _ rfl (by simp [Act.eval, Act.put]) 35 _ HO8.out HI.out HZ.out HO.out ?_; rw [← HV8.out])
        | (with_reducible refine wpList_load_row rfl 35 (.tmp 5) rfl _ rfl 35 _ _ _ HP8.out Tryz.underlying35 rfl HI.out ?_)
        | (with_reducible refine wpList_build1 rfl (.tmp 13) rfl xd HX2.out (by simp [Act.eval, Act.put]) ?_)
        | (at_builtin; refine wp_appD V8 rfl (.tmp 12) (.tmp 14) rfl w.heap.size u3 k (flatD ls k) xd HX2.out HO.out rfl HOW8.out rfl (by omega) HB8.out.size ?_; intro v' w1 hown1 hb1; have HOW1 := Lib.hid hown1; have HB1 := Lib.hid (HB8.out.trans hb1); clear hown1 hb1))
      go_roundg (n - (k + 1))
      case measure => omega
      case rel => exact ⟨k + 1, by go_num, by omega, by rw [flatD_snoc, ← HXD.out]; exact HOW1.out, HB1.out⟩
    · obtain rfl : k = n := by omega
      have HE := Lib.hid (tdig_end HOW.out HB.out HH.out.2)
      go_wp2_with fail
      go_ret
      exact HE.out
theorem few_small (n c : Nat) (A : Option Addr) (w : World) (hn : n ≤ 20) : Calls Tryz.prog 4 #[.slice A n c] w fun e w' => e = .returned (.slice A n c) ∧ w = w' := by
  have h1 : ¬ (20 : Int) < (n : Int) := by omega
  go_enter Tryz.func4, Tryz.ntmps4
  go_wp2
  go_ret
  exact ⟨rfl, rfl⟩
theorem few_big (n c b o : Nat) (w : World) (hn : 20 < n) (hc : n ≤ c) (hcm : c ≤ 9223372036854775807) : Calls Tryz.prog 4 #[.slice (some ⟨b, o, none⟩) n c] w fun e w' => e = .returned (.slice (some ⟨b, o, none⟩) 20 c) ∧ w = w' := by
  have h1 : (20 : Int) < (n : Int) := by omega
  have h2 : 20 < n := hn
  go_enter Tryz.func4, Tryz.ntmps4
  go_wp2
  go_ret
  exact ⟨rfl, rfl⟩
theorem tnew_zero (b c : Nat) (A : Option Addr) (w : World) : Calls Tryz.prog 6 #[.pointer (some ⟨b, 0, none⟩), .slice A 0 c] w fun e w' => e = .returned (.tuple #[.pointer none, .int .i64 1]) ∧ w = w' := by
  have HF := Lib.hid (fun W => fits_t 0 W)
  have hd : decide (1 ≤ 0 ∧ 0 ≤ 1024) = false := rfl
  rw [hd, show ((0 : Nat) : Int) = 0 from rfl] at HF
  clear hd
  go_enter Tryz.func6, Tryz.ntmps6
  go_wp2_with fail
  refine (HF.out _).mono ?_
  rintro e w' ⟨rfl, rfl⟩
  go_wp2_with fail
  exact bodyPost_ret (v := .tuple #[.pointer none, .int .i64 1]) (by simp [results, Tryz.results6, go_sem]) rfl ⟨rfl, rfl⟩
end
section
open Go.RowKit Go Go.WideShapes Go.ChangeShapes Go.Deep
set_option linter.unusedVariables false
set_option linter.unusedSimpArgs false
section
variable {H : Type} {enc : TypeId × Value → H} {w : World}
theorem cells_u8t : Tryz.prog.cellsOf 5 = 1 := by kernel_rfl
theorem cells_d32t : Tryz.prog.cellsOf 35 = 32 := by kernel_rfl
theorem d32_cells {m : Nat} {cs : List Value} {x : DataW H × List MemPlace} (hlen : cs.length = 32) (h : DataW.trod enc Tryz.prog w 0 (fun _ => true) true m 35 cs = some x) : ∃ l : List Nat, IsDig l ∧ cs = (dA l).toList := by
  obtain ⟨xs, k2, _, _, hl2, hxl, hel⟩ := DataW.trod_array Tryz.underlying35 h
  have hcell : ∀ i, i < 32 → ∃ q : Nat, q < 256 ∧ cs[i]? = some (.int .u8 (q : Int)) := fun i hi => by
    have h2 := hel i hi
    rw [cells_u8t, Nat.mul_one] at h2
    obtain ⟨y, hy⟩ : ∃ y, xs[i]? = some y := ⟨_, List.getElem?_eq_getElem (by omega)⟩
    rw [hy] at h2
    obtain ⟨z2, hz2, _, hw2⟩ := DataW.trod_int Tryz.underlying5 h2
    obtain ⟨q, hq, rfl⟩ := nat_u8 hw2
    refine ⟨q, hq, ?_⟩
    have h3 := congrArg (fun l => l[0]?) hz2
    simp only [List.getElem?_cons_zero] at h3
    rw [← h3, List.getElem?_take_of_lt (by omega), List.getElem?_drop]
    rfl
  have hq : ∀ i, ∃ q : Nat, i < 32 → q < 256 ∧ cs[i]? = some (.int .u8 (q : Int)) := fun i => by
    by_cases hi : i < 32
    · obtain ⟨q, h2⟩ := hcell i hi; exact ⟨q, fun _ => h2⟩
    · exact ⟨0, fun h => absurd h hi⟩
  obtain ⟨f, hf⟩ := Classical.skolem.1 hq
  have hg : ∀ j, j < 32 → ((List.range 32).map f).getD j 0 = f j := fun j hj => by rw [List.getD_eq_getElem?_getD, List.getElem?_map, List.getElem?_range hj]; rfl
  refine ⟨(List.range 32).map f, ⟨by simp, fun j => ?_⟩, List.ext_getElem? fun j => ?_⟩
  · by_cases hj : j < 32
    · rw [hg j hj]; exact (hf j hj).1
    · rw [List.getD_eq_getElem?_getD, List.getElem?_eq_none (by simp; omega)]; simp
  · by_cases hj : j < 32
    · rw [(hf j hj).2, Array.getElem?_toList, rowV_at _ hj]
      unfold bF
      rw [hg j hj]
      rfl
    · rw [List.getElem?_eq_none (by omega), List.getElem?_eq_none (by simp [rowV_size]; omega)]
theorem d32s_open {A : Option Addr} {n c : Nat} {d : DataW H} {p : List MemPlace} (h : DataW.Trod enc Tryz.prog w 0 (fun _ => true) true 22 (.slice A n c) d p) : (∃ ls, DgS w A n ls) ∧ n ≤ c ∧ c ≤ 9223372036854775807 := by
  obtain ⟨fuel, hfu⟩ := h
  rcases open_slice Tryz.underlying22 hfu with ⟨hcs, _⟩ | ⟨a, len, cap, m, k, D, Pl, hcs, _, hl, hm, hmm, _, hi⟩
  · simp [Value.cells] at hcs
    obtain ⟨rfl, rfl, rfl⟩ := hcs
    exact ⟨⟨fun _ => zero32L, fun h => absurd h (by omega), fun _ => zero32_dig⟩, by omega, by omega⟩
  · simp [Value.cells] at hcs
    obtain ⟨rfl, rfl, rfl⟩ := hcs
    have hm2 : m = c := by simpa using hmm
    refine ⟨?_, hl, by unfold maxLen at hm; omega⟩
    have key : ∀ i, ∃ l : List Nat, IsDig l ∧ (i < n → ∀ j v, (dA l).toList[j]? = some v → w.cell? ((a.add (i * 32)).add j) = some v) := fun i => by
      by_cases hin : i < n
      · obtain ⟨cs', hc, ht'⟩ := hi i (by omega)
        rw [cells_d32t] at hc
        obtain ⟨_, hcl, hat⟩ := World.cells?_some hc
        obtain ⟨l, h1, h2⟩ := d32_cells hcl ht'
        refine ⟨l, h1, fun _ j v hv => ?_⟩
        have hj : j < 32 := by have := (List.getElem?_eq_some_iff.1 hv).1; simpa [rowV_size] using this
        rw [hat j hj, h2]; exact hv
      · exact ⟨zero32L, zero32_dig, fun x => absurd x hin⟩
    obtain ⟨ls, hls⟩ := Classical.skolem.1 key
    refine ⟨ls, fun hn0 => ?_, fun k => (hls k).1⟩
    obtain ⟨b, off, spot⟩ := a
    have hk0 := (hls 0).2 hn0
    have h00 : (dA (ls 0)).toList[0]? = some (bF (ls 0) 0) := by rw [Array.getElem?_toList]; exact rowV_at _ (by omega)
    have hc0 := hk0 0 _ h00
    have hspot : spot = none := by simpa [Addr.add] using World.cell?_spot hc0
    subst hspot
    refine ⟨b, off, rfl, by simpa [Go.WideShapes.add_plain] using block_lt_of_cell hc0, fun i hin j v hv => ?_⟩
    have := (hls i).2 hin j v hv
    rwa [Go.WideShapes.add_plain, Go.WideShapes.add_plain] at this
end
end
section
open Go.RowKit Go
set_option linter.unusedVariables false
set_option linter.unusedSimpArgs false
/-- what Node tells -/
def nodeK (D : Nat) (F : Nat → Nat → List Nat) (d i : Int) : List Nat := if 0 ≤ d ∧ d ≤ (D : Int) ∧ 0 ≤ i ∧ i < (2 : Int) ^ (D - d.toNat) then F d.toNat i.toNat else zero32L
theorem nodeK_in {D d i : Nat} {F : Nat → Nat → List Nat} (hd : d ≤ D) (hi : i < 2 ^ (D - d)) : nodeK D F (d : Int) (i : Int) = F d i := by
  unfold nodeK
  rw [if_pos, Int.toNat_natCast, Int.toNat_natCast]
  refine ⟨by omega, by omega, by omega, ?_⟩
  rw [Int.toNat_natCast]
  exact_mod_cast hi
theorem nodeK_out {D : Nat} {F : Nat → Nat → List Nat} {d i : Int} (h : d < 0 ∨ (D : Int) < d ∨ i < 0 ∨ (2 : Int) ^ (D - d.toNat) ≤ i) : nodeK D F d i = zero32L := by
  unfold nodeK
  rw [if_neg]
  rintro ⟨h1, h2, h3, h4⟩
  omega
set_option maxHeartbeats 1000000 in
set_option maxRecDepth 100000 in
theorem tnode_any (T b n D lb cap : Nat) (d k : Int) (q : Nat → Nat) (F : Nat → Nat → List Nat) (w : World) (h : TrB w T b n D lb cap q F) (hkb : k ≤ 9223372036854775807) :
    Calls Tryz.prog 23 #[.pointer (some ⟨T, 0, none⟩), .int .i64 d, .int .i64 k] w fun e w' => e = .returned (.agg (dA (nodeK D F d k))) ∧ Below w.heap.size w w' := by
  by_cases hin : 0 ≤ d ∧ d ≤ (D : Int) ∧ 0 ≤ k ∧ k < (2 : Int) ^ (D - d.toNat)
  · obtain ⟨h1, h2, h3, h4⟩ := hin
    obtain ⟨d', rfl⟩ : ∃ d' : Nat, d = (d' : Int) := ⟨d.toNat, by omega⟩
    obtain ⟨i, rfl⟩ : ∃ i : Nat, k = (i : Int) := ⟨k.toNat, by omega⟩
    rw [Int.toNat_natCast] at h4
    have hi : i < 2 ^ (D - d') := by exact_mod_cast h4
    rw [nodeK_in (by omega) hi]
    exact tnode_in T b n D lb cap d' i q F w h (by omega) hi
  · have hz := zero_dig
    have hb1 : Below w.heap.size w (w.alloc (.cells (zeros 32) DgT)) := (Below.refl _ _).alloc (Nat.le_refl _) _
    have h1 := h.next hb1
    have k2 := h1.c2
    have HN := Lib.hid (tnone_any T b n D lb cap q F _ h1)
    have HDP := Lib.hid (tdepth_any T b n D lb cap q F _ h1)
    have hD := h.D5
    have HI := Lib.hid (info_dig (cs := zeros 32) (by simp [zeros]))
    have HO : Hid ((zeros 32).all (·.oneCell') = true) := Lib.hid (by kernel_rfl)
    have HX := Lib.hid (heap_alloc_new w (.cells (zeros 32) DgT))
    have HFX := Lib.hid (setRow_heap _ _ _ (zeros 32) _ _ (heap_alloc_new w (.cells (zeros 32) DgT)))
    have HFB := Lib.hid (below_setRow (g := w.heap.size) hb1 (Nat.le_refl _) (zeros 32))
    rcases (by omega : d < 0 ∨ (0 ≤ d ∧ (D : Int) < d) ∨ (0 ≤ d ∧ d ≤ (D : Int) ∧ k < 0) ∨ (0 ≤ d ∧ d ≤ (D : Int) ∧ 0 ≤ k)) with hc | ⟨hc, hc2⟩ | ⟨hc, hc2, hc3⟩ | ⟨hc, hc2, hc3⟩
    · rw [nodeK_out (.inl hc), zero32_cells]
      have a1 : decide (d < 0) = true := decide_eq_true hc
      clear h h1 hb1 hin
      go_enter Tryz.func23, Tryz.ntmps23
      go_wp2_with fail
      refine HN.out.mono ?_
      rintro e w' ⟨rfl, rfl⟩
      go_wp2_with (with_reducible refine wpList_store_row rfl DgT (.tmp 6) (.tmp 35) rfl _ _ rfl rfl DgT _ HX.out HI.out rfl HO.out ?_)
      exact bodyPost_ret (v := .agg (zeros 32)) (results_cell_row rfl _ _ _ DgT _ (0, 0) _ rfl HFX.out Tryz.underlying36 rfl HI.out) rfl ⟨rfl, HFB.out⟩
    · rw [nodeK_out (.inr (.inl hc2)), zero32_cells]
      have a1 : decide (d < 0) = false := decide_eq_false (by omega)
      have a2 : decide ((D : Int) < d) = true := decide_eq_true hc2
      clear h h1 hb1 hin
      go_enter Tryz.func23, Tryz.ntmps23
      go_wp2_with fail
      refine HN.out.mono ?_
      rintro e w' ⟨rfl, rfl⟩
      go_wp2_with fail
      refine HDP.out.mono ?_
      rintro e w' ⟨rfl, rfl⟩
      go_wp2_with (with_reducible refine wpList_store_row rfl DgT (.tmp 6) (.tmp 35) rfl _ _ rfl rfl DgT _ HX.out HI.out rfl HO.out ?_)
      exact bodyPost_ret (v := .agg (zeros 32)) (results_cell_row rfl _ _ _ DgT _ (0, 0) _ rfl HFX.out Tryz.underlying36 rfl HI.out) rfl ⟨rfl, HFB.out⟩
    · rw [nodeK_out (.inr (.inr (.inl hc3))), zero32_cells]
      have a1 : decide (d < 0) = false := decide_eq_false (by omega)
      have a2 : decide ((D : Int) < d) = false := decide_eq_false (by omega)
      have a3 : decide (k < 0) = true := decide_eq_true hc3
      clear h h1 hb1 hin
      go_enter Tryz.func23, Tryz.ntmps23
      go_wp2_with fail
      refine HN.out.mono ?_
      rintro e w' ⟨rfl, rfl⟩
      go_wp2_with fail
      refine HDP.out.mono ?_
      rintro e w' ⟨rfl, rfl⟩
      go_wp2_with (with_reducible refine wpList_store_row rfl DgT (.tmp 6) (.tmp 35) rfl _ _ rfl rfl DgT _ HX.out HI.out rfl HO.out ?_)
      exact bodyPost_ret (v := .agg (zeros 32)) (results_cell_row rfl _ _ _ DgT _ (0, 0) _ rfl HFX.out Tryz.underlying36 rfl HI.out) rfl ⟨rfl, HFB.out⟩
    · obtain ⟨d', rfl⟩ : ∃ d' : Nat, d = (d' : Int) := ⟨d.toNat, by omega⟩
      have hle : (2 : Int) ^ (D - d') ≤ k := by
        rw [Int.toNat_natCast] at hin
        rcases Int.lt_or_le k ((2 : Int) ^ (D - d')) with c | c
        · exact absurd ⟨hc, hc2, hc3, c⟩ hin
        · exact c
      rw [nodeK_out (.inr (.inr (.inr (by rw [Int.toNat_natCast]; exact hle)))), zero32_cells]
      have kr := h1.row d' (by omega)
      obtain ⟨N, hN⟩ : ∃ N : Nat, N = 2 ^ (D - d') := ⟨_, rfl⟩
      have hNi : ((2 : Int) ^ (D - d')) = (N : Int) := by rw [hN]; push_cast; rfl
      rw [hNi] at hle
      rw [← hN] at kr
      have a1 : decide ((d' : Int) < 0) = false := decide_eq_false (by omega)
      have a2 : decide ((D : Int) < (d' : Int)) = false := decide_eq_false (by omega)
      have a2' : decide (D < d') = false := decide_eq_false (by omega)
      have a3 : decide (k < 0) = false := decide_eq_false (by omega)
      have a4 : decide ((N : Int) ≤ k) = true := decide_eq_true hle
      clear h h1 hb1 hin hN hNi hc hc3
      go_enter Tryz.func23, Tryz.ntmps23
      go_wp2_with fail
      refine HN.out.mono ?_
      rintro e w' ⟨rfl, rfl⟩
      go_wp2_with fail
      refine HDP.out.mono ?_
      rintro e w' ⟨rfl, rfl⟩
      go_wp2_with (with_reducible refine wpList_store_row rfl DgT (.tmp 6) (.tmp 35) rfl _ _ rfl rfl DgT _ HX.out HI.out rfl HO.out ?_)
      exact bodyPost_ret (v := .agg (zeros 32)) (results_cell_row rfl _ _ _ DgT _ (0, 0) _ rfl HFX.out Tryz.underlying36 rfl HI.out) rfl ⟨rfl, HFB.out⟩
end
section
open Go.RowKit Go
set_option linter.unusedVariables false
set_option linter.unusedSimpArgs false
set_option maxRecDepth 100000
/-- how many levels stand above n leaves, up to 1024 -/
def dpX (n : Nat) : Nat := if n ≤ 1 then 0 else if n ≤ 2 then 1 else if n ≤ 4 then 2 else if n ≤ 8 then 3 else if n ≤ 16 then 4 else if n ≤ 32 then 5 else if n ≤ 64 then 6 else if n ≤ 128 then 7 else if n ≤ 256 then 8 else if n ≤ 512 then 9 else 10
theorem dpX_le (n : Nat) : dpX n ≤ 10 := by unfold dpX; repeat' split <;> try omega
theorem len8_all : ∀ m : Fin 256, Lib.len8 (m.1 : Int) = ((dpX (m.1 + 1) : Nat) : Int) := by decide +kernel
theorem len8_is {m : Nat} (h : m < 256) : Lib.len8 (m : Int) = ((dpX (m + 1) : Nat) : Int) := len8_all ⟨m, h⟩
theorem dpX_shift {m : Nat} (h : 256 ≤ m) (h2 : m < 1024) : dpX (m / 256 + 1) + 8 = dpX (m + 1) := by
  have : m / 256 = 1 ∨ m / 256 = 2 ∨ m / 256 = 3 := by omega
  unfold dpX
  rcases this with e | e | e <;> rw [e] <;> simp <;> (repeat' split) <;> omega
theorem tab_is {m : Nat} (h : m < 256) (hsz : m < Lib.len8tab.size) : (((Lib.len8tab[m]'hsz).toNat : Nat) : Int) = ((dpX (m + 1) : Nat) : Int) := by
  have e := len8_is h
  unfold Lib.len8 at e
  rw [Int.toNat_natCast, ByteArray.getElem?_lt' _ _ hsz, Option.getD_some] at e
  exact e
theorem len64_any (m : Nat) (h2 : m < 1024) (w : World) : Calls Tryz.prog 53 #[.int .u64 (m : Int)] w fun e w' => e = .returned (.int .i64 (dpX (m + 1) : Int)) ∧ w = w' := by
  have b1 : decide ((4294967296 : Int) ≤ (m : Int)) = false := decide_eq_false (by omega)
  have b2 : decide ((65536 : Int) ≤ (m : Int)) = false := decide_eq_false (by omega)
  by_cases h : m < 256
  · have b3 : ¬ (256 : Int) ≤ (m : Int) := by omega
    have hsz : m < Lib.len8tab.size := by rw [Lib.len8tab_size]; exact h
    have e9 := tab_is h hsz
    have em : (m : Int) % 256 = (m : Int) := by omega
    have hd10 := dpX_le (m + 1)
    generalize dpX (m + 1) = d at *
    go_enter Tryz.func53, Tryz.ntmps53
    go_wp2
    go_ret
    exact ⟨rfl, rfl⟩
  · have b3 : (256 : Int) ≤ (m : Int) := by omega
    have hq : m / 256 < 256 := by omega
    have hsz : m / 256 < Lib.len8tab.size := by rw [Lib.len8tab_size]; exact hq
    have e9 := tab_is hq hsz
    have hd := dpX_shift (by omega) h2
    have eq1 : (m : Int) / 256 = ((m / 256 : Nat) : Int) := by omega
    generalize m / 256 = q at *
    have em : (q : Int) % 256 = (q : Int) := by omega
    have hd10 := dpX_le (m + 1)
    have hd2 := dpX_le (q + 1)
    have HD := Lib.hid hd
    clear hd
    generalize dpX (m + 1) = d at *
    generalize dpX (q + 1) = d2 at *
    go_enter Tryz.func53, Tryz.ntmps53
    go_wp2
    go_ret
    exact ⟨ret_int (by have := HD.out; omega), rfl⟩
theorem blen_any (m : Nat) (h2 : m < 1024) (w : World) : Calls Tryz.prog 36 #[.int .u64 (m : Int)] w fun e w' => e = .returned (.int .i64 (dpX (m + 1) : Int)) ∧ w = w' := by
  have HL := Lib.hid (fun W => len64_any m h2 W)
  go_enter Tryz.func36, Tryz.ntmps36
  go_wp2_with fail
  refine (HL.out _).mono ?_
  rintro e w' ⟨rfl, rfl⟩
  go_wp2
  go_ret
  exact ⟨rfl, rfl⟩
theorem depth_x (n : Nat) (h1 : 1 ≤ n) (h2 : n ≤ 1024) (w : World) : Calls Tryz.prog 17 #[.int .i64 (n : Int)] w fun e w' => e = .returned (.int .i64 (dpX n : Int)) ∧ w = w' := by
  have HL := Lib.hid (fun W => blen_any (n - 1) (by omega) W)
  rw [show n - 1 + 1 = n by omega] at HL
  have e : (n : Int) - 1 = ((n - 1 : Nat) : Int) := by omega
  generalize n - 1 = m at *
  have hm : m < 1024 := by omega
  have eu : IntKind.u64.wrap (m : Int) = (m : Int) := IntWalk.u64_in _ (by omega)
  go_enter Tryz.func17, Tryz.ntmps17
  go_wp2_with fail
  refine (HL.out _).mono ?_
  rintro e w' ⟨rfl, rfl⟩
  go_wp2
  go_ret
  exact ⟨rfl, rfl⟩
set_option maxHeartbeats 4000000 in
theorem dpX_of {n k : Nat} (h1 : ∀ j, j < k → 2 ^ j < n) (h2 : n ≤ 2 ^ k) (hn : n ≤ 1024) : k = dpX n := by
  have hk : k ≤ 10 := by
    rcases Nat.lt_or_ge 10 k with c | c
    · have := h1 10 c; omega
    · exact c
  have q0 := h1 0; have q1 := h1 1; have q2 := h1 2; have q3 := h1 3; have q4 := h1 4; have q5 := h1 5; have q6 := h1 6; have q7 := h1 7; have q8 := h1 8; have q9 := h1 9
  unfold dpX
  rcases (by omega : k = 0 ∨ k = 1 ∨ k = 2 ∨ k = 3 ∨ k = 4 ∨ k = 5 ∨ k = 6 ∨ k = 7 ∨ k = 8 ∨ k = 9 ∨ k = 10) with rfl | rfl | rfl | rfl | rfl | rfl | rfl | rfl | rfl | rfl | rfl <;> simp at * <;> (repeat' split) <;> omega
theorem rdepth_x (n : Nat) (hn : n ≤ 1024) (w : World) : Calls Tryz.prog 27 #[.int .i64 (n : Int)] w fun e w' => e = .returned (.int .i64 (dpX n : Int)) ∧ w = w' := by
  go_enter Tryz.func27, Tryz.ntmps27
  go_wp2
  go_loopg [3, 4] 11 (fun gk kv wv W => ∃ k P : Nat, kv = .int .i64 (k : Int) ∧ wv = .int .i64 (P : Int) ∧ P = 2 ^ k ∧ k + gk = 11 ∧ (∀ j, j < k → 2 ^ j < n) ∧ W = w)
  case atStart => exact ⟨0, 1, rfl, rfl, rfl, rfl, fun j hj => by omega, rfl⟩
  case round =>
    obtain ⟨k, P, rfl, rfl, hP, hk, hj, rfl⟩ := hrel
    have HP := Lib.hid hP
    have HJ := Lib.hid hj
    have hk5 : k ≤ 11 := by omega
    have hPb : P ≤ 2048 := by rw [hP]; exact Nat.le_trans (Nat.pow_le_pow_right (by omega) hk5) (by decide)
    clear hP hj
    by_cases hlt : P < n
    · have h5 : k < 10 := by
        rcases Nat.lt_or_ge k 10 with c | c
        · exact c
        · have h1 := HP.out
          have h2 : 2 ^ 10 ≤ 2 ^ k := Nat.pow_le_pow_right (by omega) c
          omega
      go_wp2_with fail
      go_roundg (11 - (k + 1))
      case measure => omega
      case rel => exact ⟨k + 1, 2 * P, by go_num, by go_num, by rw [HP.out, Nat.pow_succ]; omega, by omega, fun j hj => by
        by_cases e : j = k
        · subst e; rw [← HP.out]; exact hlt
        · exact HJ.out j (by omega), rfl⟩
    · have hkd : k = dpX n := dpX_of HJ.out (by rw [← HP.out]; omega) hn
      have HKD := Lib.hid hkd
      clear hkd
      go_wp2_with fail
      go_ret
      exact ⟨by rw [HKD.out]; rfl, rfl⟩
end
section
open Go.RowKit Go
set_option linter.unusedVariables false
set_option linter.unusedSimpArgs false
set_option maxRecDepth 100000
/-- what stands d levels above leaf k: x, and what stands beside the way up, ps -/
def upS (k : Nat) (x : List Nat) (ps : Nat → List Nat) : Nat → List Nat
  | 0 => x
  | d + 1 => Sha.sum (nodeT (d + 1) (k / 2 ^ (d + 1)) (if (k / 2 ^ d) % 2 = 1 then ps d else upS k x ps d) (if (k / 2 ^ d) % 2 = 1 then upS k x ps d else ps d))
theorem upS_dig {k : Nat} {x : List Nat} {ps : Nat → List Nat} (h : IsDig x) : ∀ d, IsDig (upS k x ps d)
  | 0 => h
  | d + 1 => bk_dig _
def UpNo (w : World) (e : Ending) (w' : World) : Prop := e = .returned (.tuple #[.agg (zeros 32), .int .i64 1]) ∧ Below w.heap.size w w'
def UpYes (w : World) (b g : Nat) (S : Nat → Prop) (t : List Nat) (e : Ending) (w' : World) : Prop :=
  e = .returned (.tuple #[.agg (digA t), .int .i64 0]) ∧ Turns S w w' ∧ ∃ (S' : Nat → Prop) (Tx sh : List (List Nat)), IsBook w' b g S' Tx sh ∧ ∀ j, S' j → S j ∨ w.heap.size ≤ j
theorem yields_rowU {P : Program} {ops : Array Oper} {S : World → Prop} {o : Oper} {a : Act} (hw : Region.wanted o (yielded ops a.tmps) = true) (ty : TypeId) (x : Operand) (ho : o.op = .load ty x) (b off : Nat) (hx : a.eval x = .pointer (some ⟨b, off, none⟩)) (xs : Array Value) (d : TypeDesc)
    (hS : ∀ w, S w → w.rangeAt b off xs.toList) (hu : P.underlying ty = some d) (hd : d.isRow = true) (hi : (P.info? ty).map (·.size) = some xs.size) : YieldsIf P ops S o (.agg xs) a :=
  .inl ⟨hw, fun w h => by
    unfold execOp
    simp only [ho, hx, Instr.loadAt, Instr.sureAddr, Sem.run_bind, Sem.run_pure, Result.andThen_ok, run_loadVar_mid w b off ty xs.toList d (hS w h) hu hd (by simpa using hi), Array.toArray_toList]⟩
theorem range_cells {w : World} {g : Nat} {xs : Array Value} {t : TypeId} {fr : Nat × Nat} (h : w.heap[g]? = some (.cells xs t fr)) : w.rangeAt g 0 xs.toList := fun j v hv => by
  rw [Nat.zero_add, cell_of_row w g j xs t fr h]
  simpa using hv
theorem rts_row {P : Program} {fn : Func} {p u : Tmp} {ty : TypeId} (h : fn.results = #[.cell p ty, .tmp u]) (tmps : Array Value) (w : World) (g : Nat) (t : TypeId) (cs : Array Value) (fr : Nat × Nat) (d : TypeDesc)
    (v2 : Value) (hp : tmps.getD p undef = .pointer (some ⟨g, 0, none⟩)) (hv2 : tmps.getD u undef = v2) (hg : w.heap[g]? = some (.cells cs t fr))
    (hu : P.underlying ty = some d) (hd : (match d with | .struct _ | .array _ _ => true | _ => false) = true) (hi : (P.info? ty).map (·.size) = some cs.size) :
    (results fn tmps).run P w = .ok (.tuple #[.agg cs, v2]) w := by
  subst hv2
  have hp' : tmps[p]?.getD undef = .pointer (some ⟨g, 0, none⟩) := by simpa using hp
  simp [results, h, hp', asAddr, run_loadVar_row w g t ty cs fr d hg hu hd hi, Sem.run_bind, Result.andThen]
theorem tfits_no (n : Int) (hn : ¬ (1 ≤ n ∧ n ≤ 1024)) (w : World) : Calls Tryz.prog 16 #[.int .i64 n] w fun e w' => e = .returned (.bool false) ∧ w = w' := by
  by_cases h : 1 ≤ n
  · have h2 : ¬ n ≤ 1024 := fun c => hn ⟨h, c⟩
    go_enter Tryz.func16, Tryz.ntmps16
    go_wp2
    go_ret
    exact ⟨ret_bool (by simp; try omega), rfl⟩
  · go_enter Tryz.func16, Tryz.ntmps16
    go_wp2
    go_ret
    exact ⟨ret_bool (by simp; try omega), rfl⟩
set_option maxHeartbeats 2000000 in
theorem tup_no (b : Nat) (n k : Int) (x : List Nat) (A : Option Addr) (m c : Nat) (w : World) (hno : n < 1 ∨ 1024 < n ∨ k < 0 ∨ n ≤ k ∨ m ≠ dpX n.toNat) :
    Calls Tryz.prog 11 #[.pointer (some ⟨b, 0, none⟩), .int .i64 n, .int .i64 k, .agg (dA x), .slice A m c] w (UpNo w) := by
  have hz := zero_dig
  have hs1 : (w.alloc (.cells (dA x) 36)).heap.size = w.heap.size + 1 := by simp
  obtain ⟨W0, hW0⟩ : ∃ W0, W0 = (w.alloc (.cells (dA x) 36)).alloc (.cells (zeros 32) 36) := ⟨_, rfl⟩
  have HB0 : Hid (Below w.heap.size w W0) := Lib.hid (by rw [hW0]; exact ((Below.refl _ _).alloc (Nat.le_refl _) _).alloc (by rw [hs1]; omega) _)
  have HS0 : Hid (W0.heap.size = w.heap.size + 2) := Lib.hid (by rw [hW0]; simp)
  have HP8 : Hid (W0.heap[w.heap.size]? = some (.cells (dA x) 36 (0, 0))) := Lib.hid (by rw [hW0]; exact blk_alloc (heap_alloc_new w _) _)
  have HR0 : Hid (W0.heap[w.heap.size + 1]? = some (.cells (zeros 32) 36 (0, 0))) := Lib.hid (by rw [hW0, ← hs1]; exact heap_alloc_new _ _)
  have HW0 := Lib.hid hW0
  have hx32 : (dA x).size = 32 := by rw [rowV_size]
  have HIX := Lib.hid (info_dig hx32)
  have HOX : Hid ((dA x).all (·.oneCell') = true) := Lib.hid (dA_one _)
  have HZX : Hid ((zeros 32).size = (dA x).size) := Lib.hid (by rw [hx32]; simp [zeros])
  have HIZ := Lib.hid (info_dig (cs := zeros 32) (by simp [zeros]))
  have HOZ : Hid ((zeros 32).all (·.oneCell') = true) := Lib.hid (by kernel_rfl)
  have HF := Lib.hid (setRow_heap _ _ _ (zeros 32) _ _ HR0.out)
  have HBF : Hid (Below w.heap.size w (W0.setRow (w.heap.size + 1) (zeros 32))) := Lib.hid (below_setRow HB0.out (by omega) _)
  obtain ⟨xd, hxd⟩ : ∃ z, z = dA x := ⟨_, rfl⟩
  rw [← hxd] at HW0 ⊢
  clear hW0 hs1 hx32 HIX HOX HZX HP8 hxd
  by_cases hn : 1 ≤ n ∧ n ≤ 1024
  · obtain ⟨n', rfl⟩ : ∃ n' : Nat, n = (n' : Int) := ⟨n.toNat, by omega⟩
    have HFT := Lib.hid (fun W => fits_t n' W)
    rw [decide_eq_true (show 1 ≤ n' ∧ n' ≤ 1024 by omega)] at HFT
    have HDX := Lib.hid (fun W => depth_x n' (by omega) (by omega) W)
    rw [Int.toNat_natCast] at hno
    by_cases hk : k < 0
    · go_enter Tryz.func11, Tryz.ntmps11
      go_wp2_with (with_reducible refine Go.Great.wpList_boxTo rfl 36 (.tmp 3) rfl (some 8) rfl w.heap.size (by simp) xd rfl ?_)
      rw [← HW0.out]
      refine (HFT.out _).mono ?_
      rintro e w' ⟨rfl, rfl⟩
      go_wp2_with (with_reducible refine wpList_store_row rfl 36 (.tmp 10) (.tmp 37) rfl _ _ rfl rfl 36 _ HR0.out HIZ.out rfl HOZ.out ?_)
      exact bodyPost_ret (v := .tuple #[.agg (zeros 32), .int .i64 1]) (rts_row rfl _ _ _ 36 _ (0, 0) _ _ rfl rfl HF.out Tryz.underlying36 rfl HIZ.out) rfl ⟨rfl, HBF.out⟩
    · by_cases hkn : (n' : Int) ≤ k
      · have hk0 : ¬ k < 0 := hk
        go_enter Tryz.func11, Tryz.ntmps11
        go_wp2_with (with_reducible refine Go.Great.wpList_boxTo rfl 36 (.tmp 3) rfl (some 8) rfl w.heap.size (by simp) xd rfl ?_)
        rw [← HW0.out]
        refine (HFT.out _).mono ?_
        rintro e w' ⟨rfl, rfl⟩
        go_wp2_with (with_reducible refine wpList_store_row rfl 36 (.tmp 10) (.tmp 37) rfl _ _ rfl rfl 36 _ HR0.out HIZ.out rfl HOZ.out ?_)
        exact bodyPost_ret (v := .tuple #[.agg (zeros 32), .int .i64 1]) (rts_row rfl _ _ _ 36 _ (0, 0) _ _ rfl rfl HF.out Tryz.underlying36 rfl HIZ.out) rfl ⟨rfl, HBF.out⟩
      · have hm : m ≠ dpX n' := by omega
        have hmi : ((m : Int) == (dpX n' : Int)) = false := by rw [beq_eq_false_iff_ne]; omega
        have hmi2 : ((m : Int) != (dpX n' : Int)) = true := by simp [bne, hmi]
        have hmi3 : ¬ (m : Int) = (dpX n' : Int) := by omega
        generalize dpX n' = dn at *
        clear hno
        go_enter Tryz.func11, Tryz.ntmps11
        go_wp2_with (with_reducible refine Go.Great.wpList_boxTo rfl 36 (.tmp 3) rfl (some 8) rfl w.heap.size (by simp) xd rfl ?_)
        rw [← HW0.out]
        refine (HFT.out _).mono ?_
        rintro e w' ⟨rfl, rfl⟩
        go_wp2_with fail
        refine (HDX.out _).mono ?_
        rintro e w' ⟨rfl, rfl⟩
        go_wp2_with (with_reducible refine wpList_store_row rfl 36 (.tmp 10) (.tmp 37) rfl _ _ rfl rfl 36 _ HR0.out HIZ.out rfl HOZ.out ?_)
        exact bodyPost_ret (v := .tuple #[.agg (zeros 32), .int .i64 1]) (rts_row rfl _ _ _ 36 _ (0, 0) _ _ rfl rfl HF.out Tryz.underlying36 rfl HIZ.out) rfl ⟨rfl, HBF.out⟩
  · have HFT : Hid (∀ W, Calls Tryz.prog 16 #[.int .i64 n] W fun e w' => e = .returned (.bool false) ∧ W = w') := Lib.hid (fun W => tfits_no n hn W)
    go_enter Tryz.func11, Tryz.ntmps11
    go_wp2_with (with_reducible refine Go.Great.wpList_boxTo rfl 36 (.tmp 3) rfl (some 8) rfl w.heap.size (by simp) xd rfl ?_)
    rw [← HW0.out]
    refine (HFT.out _).mono ?_
    rintro e w' ⟨rfl, rfl⟩
    go_wp2_with (with_reducible refine wpList_store_row rfl 36 (.tmp 10) (.tmp 37) rfl _ _ rfl rfl 36 _ HR0.out HIZ.out rfl HOZ.out ?_)
    exact bodyPost_ret (v := .tuple #[.agg (zeros 32), .int .i64 1]) (rts_row rfl _ _ _ 36 _ (0, 0) _ _ rfl rfl HF.out Tryz.underlying36 rfl HIZ.out) rfl ⟨rfl, HBF.out⟩
end
section
open Go.RowKit Go
set_option linter.unusedVariables false
set_option linter.unusedSimpArgs false
set_option maxRecDepth 100000
/-- what the loop of Up keeps: p8.. the result's cell r, the place's p, the sum's q, and the book -/
def UpInv (w : World) (b g k p q : Nat) (S : Nat → Prop) (x : List Nat) (ps : Nat → List Nat) (m : Nat) (i : Value) (W : World) : Prop :=
  ∃ d : Nat, i = .int .i64 (d : Int) ∧ d ≤ m ∧ W.heap[w.heap.size + 1]? = some (.cells (zeros 32) 36 (0, 0)) ∧ W.heap[p]? = some (.cells #[.int .i64 (d : Int), .int .i64 ((k / 2 ^ d : Nat) : Int)] 55 (0, 0)) ∧
    W.heap[q]? = some (.cells (dA (upS k x ps d)) 36 (0, 0)) ∧ Turns S w W ∧ ∃ (S' : Nat → Prop) (Tx sh : List (List Nat)), IsBook W b g S' Tx sh ∧ (∀ j, S' j → S j ∨ w.heap.size ≤ j) ∧ ¬ S' (w.heap.size + 1) ∧ ¬ S' p ∧ ¬ S' q
theorem two_at (W0 : World) (o1 o2 : Obj) : ((W0.alloc o1).alloc o2).heap[W0.heap.size]? = some o1 ∧ ((W0.alloc o1).alloc o2).heap[W0.heap.size + 1]? = some o2 ∧ Below W0.heap.size W0 ((W0.alloc o1).alloc o2) ∧ ((W0.alloc o1).alloc o2).heap.size = W0.heap.size + 2 := by
  have e1 : (W0.alloc o1).heap.size = W0.heap.size + 1 := by simp
  refine ⟨(Below.heap_alloc _ _ _ (by omega)).trans (heap_alloc_new W0 o1), ?_, ((Below.refl _ _).alloc (Nat.le_refl _) _).alloc (by omega) _, by simp⟩
  rw [← e1]; exact heap_alloc_new _ o2
theorem two_set {W0 V : World} {p q : Nat} {P X oldp oldq : Array Value} {tp tq : TypeId} (hb : Below W0.heap.size W0 V) (hp : V.heap[p]? = some (.cells oldp tp (0, 0))) (hq : V.heap[q]? = some (.cells oldq tq (0, 0))) (hne : p ≠ q) (hp0 : W0.heap.size ≤ p) (hq0 : W0.heap.size ≤ q) :
    ((V.setRow p P).setRow q X).heap[p]? = some (.cells P tp (0, 0)) ∧ ((V.setRow p P).setRow q X).heap[q]? = some (.cells X tq (0, 0)) ∧ Below W0.heap.size W0 ((V.setRow p P).setRow q X) := by
  have h1 := setRow_heap V p oldp P tp (0, 0) hp
  have h2 : (V.setRow p P).heap[q]? = some (.cells oldq tq (0, 0)) := (setRow_other _ _ _ _ (fun e => hne e.symm)).trans hq
  exact ⟨(setRow_other _ _ _ _ hne).trans h1, setRow_heap _ q oldq X tq (0, 0) h2, below_setRow (below_setRow hb hp0 _) hq0 _⟩
theorem one_pl (a b : Int) : (#[Value.int .i64 a, Value.int .i64 b] : Array Value).all (·.oneCell') = true := by first | rfl | kernel_rfl | simp [Value.oneCell'] | (simp; exact ⟨rfl, rfl⟩)
theorem turns_setRow (w : World) (a : Nat) (cs : Array Value) : Turns (fun j => j = a) w (w.setRow a cs) := ⟨rfl, rfl, rfl, by rw [size_setRow]; exact Nat.le_refl _, fun j _ hn => setRow_other _ _ _ _ hn⟩
theorem bk_setRow {w : World} {b g : Nat} {S : Nat → Prop} {T sh : List (List Nat)} (h : IsBook w b g S T sh) {a : Nat} (ha : ¬ S a) (cs : Array Value) : IsBook (w.setRow a cs) b g S T sh := h.turns (F := fun j => j = a) (turns_setRow w a cs) (fun j hj => by subst hj; exact ha)
theorem tS_setRow {S : Nat → Prop} {w W : World} (h : Turns S w W) {a : Nat} (ha : w.heap.size ≤ a) (cs : Array Value) : Turns S w (W.setRow a cs) := h.trans (turns_setRow W a cs) (fun j hj e => by omega)
theorem turnsU {w w' : World} {S : Nat → Prop} {k : Nat} {cs : Array Value} {t : TypeId} (h : Turns S w w') (hk : ¬ S k) (ho : w.heap[k]? = some (.cells cs t (0, 0))) : w'.heap[k]? = some (.cells cs t (0, 0)) := (h.block k (blk_lt ho) hk).trans ho
theorem info_pl : (Tryz.prog.info? 55).map (·.size) = some 2 := by kernel_rfl
theorem info_pl2 (a b : Int) : (Tryz.prog.info? 55).map (·.size) = some (#[Value.int .i64 a, Value.int .i64 b] : Array Value).size := info_pl
theorem sz_pl (a b c d : Int) : (#[Value.int .i64 a, Value.int .i64 b] : Array Value).size = (#[Value.int .i64 c, Value.int .i64 d] : Array Value).size := rfl
set_option maxHeartbeats 4000000 in
theorem tup_yes (b g n k m c : Nat) (x : List Nat) (A : Option Addr) (ps : Nat → List Nat) (S : Nat → Prop) (Tx sh : List (List Nat)) (w : World) (hbk : IsBook w b g S Tx sh) (hds : DgS w A m ps) (hoff : ∀ ad, A = some ad → ¬ S ad.block) (h1 : 1 ≤ n) (h2 : n ≤ 1024) (hk : k < n) (hm : m = dpX n) (hc : m ≤ c) (hx : IsDig x) :
    Calls Tryz.prog 11 #[.pointer (some ⟨b, 0, none⟩), .int .i64 (n : Int), .int .i64 (k : Int), .agg (dA x), .slice A m c] w (UpYes w b g S (txt 2 [putL 4 n, upS k x ps m])) := by
  have hz := zero_dig
  have hs1 : (w.alloc (.cells (dA x) 36)).heap.size = w.heap.size + 1 := by simp
  obtain ⟨W0, hW0⟩ : ∃ W0, W0 = (w.alloc (.cells (dA x) 36)).alloc (.cells (zeros 32) 36) := ⟨_, rfl⟩
  have HB0 : Hid (Below w.heap.size w W0) := Lib.hid (by rw [hW0]; exact ((Below.refl _ _).alloc (Nat.le_refl _) _).alloc (by rw [hs1]; omega) _)
  have HS0 : Hid (W0.heap.size = w.heap.size + 2) := Lib.hid (by rw [hW0]; simp)
  have HP8 : Hid (W0.heap[w.heap.size]? = some (.cells (dA x) 36 (0, 0))) := Lib.hid (by rw [hW0]; exact blk_alloc (heap_alloc_new w _) _)
  have HR0 : Hid (W0.heap[w.heap.size + 1]? = some (.cells (zeros 32) 36 (0, 0))) := Lib.hid (by rw [hW0, ← hs1]; exact heap_alloc_new _ _)
  have HW0 := Lib.hid hW0
  have hx32 : (dA x).size = 32 := by rw [rowV_size]
  have HIX := Lib.hid (info_dig hx32)
  have HOX : Hid ((dA x).all (·.oneCell') = true) := Lib.hid (dA_one _)
  have HZX : Hid ((zeros 32).size = (dA x).size) := Lib.hid (by rw [hx32]; simp [zeros])
  have HIZ := Lib.hid (info_dig (cs := zeros 32) (by simp [zeros]))
  have HOZ : Hid ((zeros 32).all (·.oneCell') = true) := Lib.hid (by kernel_rfl)
  have HFT := Lib.hid (fun W => fits_t n W)
  rw [decide_eq_true (show 1 ≤ n ∧ n ≤ 1024 by omega)] at HFT
  have HDX := Lib.hid (fun W => depth_x n h1 h2 W)
  rw [← hm] at HDX
  have hm10 : m ≤ 10 := by rw [hm]; exact dpX_le n
  have HBK := Lib.hid hbk
  have HSUB : Hid (∀ j, S j → j < w.heap.size) := Lib.hid (fun j hj => hbk.sub hj)
  have HDS := Lib.hid hds
  have HOFF := Lib.hid hoff
  have HX := Lib.hid hx
  have HXX := Lib.hid hx32
  obtain ⟨xd, hxd⟩ : ∃ z, z = dA x := ⟨_, rfl⟩
  have HXD := Lib.hid hxd
  rw [← hxd] at HW0 HP8 HIX HOX HZX ⊢
  clear hW0 hs1 hx32 hxd hbk hds hoff hx hm
  have hk1 : ¬ (k : Int) < 0 := by omega
  have hk2 : ¬ (n : Int) ≤ (k : Int) := by omega
  go_enter Tryz.func11, Tryz.ntmps11
  go_wp2_with (with_reducible refine Go.Great.wpList_boxTo rfl 36 (.tmp 3) rfl (some 8) rfl w.heap.size (by simp) xd rfl ?_)
  rw [← HW0.out]
  refine (HFT.out _).mono ?_
  rintro e w' ⟨rfl, rfl⟩
  go_wp2_with fail
  refine (HDX.out _).mono ?_
  rintro e w' ⟨rfl, rfl⟩
  go_upto_region 3 with (fail)
  have HK : Hid (∀ W, Below W0.heap.size W0 W → W.heap[w.heap.size]? = some (.cells xd 36 (0, 0)) ∧ Below W0.heap.size W0 W) := Lib.hid (fun W hW => ⟨(hW.block _ (blk_lt HP8.out)).trans HP8.out, hW⟩)
  refine wp_region_F (S := (fun W : World => W.heap[w.heap.size]? = some (.cells xd 36 (0, 0)) ∧ Below W0.heap.size W0 W)) [] (by kernel_rfl) (HK.out _ ((Below.refl _ _).drew)) (fun hHeld => ?_)
  refine wpAnyF_take (i := 0) (oi := _) (v := ?_) rfl (by kernel_rfl) (by kernel_rfl) (by kernel_rfl) (by kernel_rfl) (fun _ _ _ h => h) (Or.inl ⟨by rfl, ?_⟩) (by assumption) ?_
  rotate_left 1
  · intro w hSw
    (try dsimp only at hSw)
    (first | (go_simp; done) | (go_simp; with_reducible rfl))
  (try simp only [Act.put, List.getElem_toArray, List.getElem_cons_succ, List.getElem_cons_zero, List.setIfInBounds_toArray, List.set_cons_zero, List.set_cons_succ])
  refine wpAnyF_take (i := 1) (oi := _) (v := ?_) rfl (by kernel_rfl) (by kernel_rfl) (by kernel_rfl) (by kernel_rfl) (fun _ _ _ h => h) (Or.inl ⟨by rfl, ?_⟩) (by assumption) ?_
  rotate_left 1
  · intro w hSw
    (try dsimp only at hSw)
    (first | (go_simp; done) | (go_simp; with_reducible rfl))
  (try simp only [Act.put, List.getElem_toArray, List.getElem_cons_succ, List.getElem_cons_zero, List.setIfInBounds_toArray, List.set_cons_zero, List.set_cons_succ])
  refine wpAnyF_take (i := 2) (oi := _) (v := _) rfl (by kernel_rfl) (by kernel_rfl) (by kernel_rfl) (by kernel_rfl) (fun _ _ _ h => h) (yields_rowU (by rfl) 36 (.tmp 8) rfl w.heap.size 0 rfl xd _ (fun W h => range_cells h.1) Tryz.underlying36 rfl HIX.out) (by assumption) ?_
  (try simp only [Act.put, List.getElem_toArray, List.getElem_cons_succ, List.getElem_cons_zero, List.setIfInBounds_toArray, List.set_cons_zero, List.set_cons_succ])
  refine wpAnyF_ready (rs := [3, 4]) (by kernel_rfl) (by simp) ?_
  refine AllReadyF.cons (o := _) rfl (fun K hK => ?_) (AllReadyF.cons (o := _) rfl (fun K hK => ?_) AllReadyF.nil)
  · go_simp
    refine hK.out _ _ (HK.out _ ((hHeld.2).alloc hHeld.2.size _)) (fun hHeld3 => ?_)
    clear hK K
    (try simp only [Act.put, List.getElem_toArray, List.getElem_cons_succ, List.getElem_cons_zero, List.setIfInBounds_toArray, List.set_cons_zero, List.set_cons_succ])
    refine wpAnyF_ready (rs := [4]) (by kernel_rfl) (by simp) ?_
    refine AllReadyF.cons (o := _) rfl (fun K hK => ?_) AllReadyF.nil
    go_simp
    refine hK.out _ _ (HK.out _ ((hHeld3.2).alloc hHeld3.2.size _)) (fun hHeld4 => ?_)
    clear hK K
    (try simp only [Act.put, List.getElem_toArray, List.getElem_cons_succ, List.getElem_cons_zero, List.setIfInBounds_toArray, List.set_cons_zero, List.set_cons_succ])
    have h2 := two_at W0 (.cells #[.int .i64 0, .int .i64 0] 55) (.cells (zeros 32) 36)
    have HV : Hid (((W0.alloc (.cells #[.int .i64 0, .int .i64 0] 55)).alloc (.cells (zeros 32) 36)).drew.heap[W0.heap.size]? = some (.cells #[.int .i64 0, .int .i64 0] 55 (0, 0)) ∧ ((W0.alloc (.cells #[.int .i64 0, .int .i64 0] 55)).alloc (.cells (zeros 32) 36)).drew.heap[(W0.heap.size + 1)]? = some (.cells (zeros 32) 36 (0, 0)) ∧ Below W0.heap.size W0 ((W0.alloc (.cells #[.int .i64 0, .int .i64 0] 55)).alloc (.cells (zeros 32) 36)).drew) := Lib.hid ⟨h2.1, h2.2.1, h2.2.2.1.drew⟩
    clear h2
    refine wpAnyF_ready (rs := [5]) (by kernel_rfl) (by simp) ?_
    refine AllReadyF.cons (o := _) rfl (fun K hK => ?_) AllReadyF.nil
    rw [if_pos (by kernel_rfl)]
    refine wp_store_row 55 (.tmp 12) (.tmp 39) rfl W0.heap.size #[.int .i64 0, .int .i64 (k : Int)] rfl rfl _ _ HV.out.1 info_pl rfl (one_pl _ _) ?_
    refine hK.out _ _ (HK.out _ (below_setRow hHeld4.2 (by omega) _)) (fun hHeld5 => ?_)
    clear hK K
    (try simp only [Act.put, List.getElem_toArray, List.getElem_cons_succ, List.getElem_cons_zero, List.setIfInBounds_toArray, List.set_cons_zero, List.set_cons_succ])
    refine wpAnyF_ready (rs := [6]) (by kernel_rfl) (by simp) ?_
    refine AllReadyF.cons (o := _) rfl (fun K hK => ?_) AllReadyF.nil
    rw [if_pos (by kernel_rfl)]
    refine wp_store_row 36 (.tmp 13) (.tmp 40) rfl (W0.heap.size + 1) xd rfl rfl _ (zeros 32) ((setRow_other _ _ _ _ (by omega)).trans HV.out.2.1) HIX.out HZX.out HOX.out ?_
    refine hK.out _ _ (HK.out _ (below_setRow hHeld5.2 (by omega) _)) (fun hHeld6 => ?_)
    clear hK K
    (try simp only [Act.put, List.getElem_toArray, List.getElem_cons_succ, List.getElem_cons_zero, List.setIfInBounds_toArray, List.set_cons_zero, List.set_cons_succ])
    refine wpAnyF_done (by kernel_rfl) ?_ _
    have h3 := two_set (P := #[.int .i64 0, .int .i64 (k : Int)]) (X := xd) HV.out.2.2 HV.out.1 HV.out.2.1 (by omega) (by omega) (by omega)
    generalize hW3 : ((((W0.alloc (.cells #[.int .i64 0, .int .i64 0] 55)).alloc (.cells (zeros 32) 36)).drew.setRow W0.heap.size #[.int .i64 0, .int .i64 (k : Int)]).setRow (W0.heap.size + 1) xd) = W3 at h3
    have HW3 := Lib.hid hW3
    have HPQ : Hid (w.heap.size + 2 ≤ W0.heap.size ∧ w.heap.size + 2 ≤ (W0.heap.size + 1) ∧ W0.heap.size ≠ (W0.heap.size + 1)) := Lib.hid (by have := HS0.out; omega)
    have hbw3 : Below w.heap.size w W3 := HB0.out.trans (h3.2.2.mono HB0.out.size)
    have H0 : Hid (UpInv w b g k W0.heap.size (W0.heap.size + 1) S x ps m (.int .i64 0) W3) := Lib.hid ⟨0, rfl, by omega, (h3.2.2.block _ (by have := HS0.out; omega)).trans HR0.out, by rw [Nat.pow_zero, Nat.div_one]; exact h3.1, by rw [upS, ← HXD.out]; exact h3.2.1, Turns.of_below hbw3, S, Tx, sh, HBK.out.below hbw3, fun j hj => .inl hj, fun hj => by have := HSUB.out _ hj; omega, fun hj => by have := HSUB.out _ hj; have := HPQ.out; omega, fun hj => by have := HSUB.out _ hj; have := HPQ.out; omega⟩

    clear hW3 hHeld hHeld3 hHeld4 hHeld5 hHeld6 h3 hbw3 HK HV HW3 HS0 HB0 HR0 HP8 HW0 HBK
    generalize hq : (W0.heap.size + 1) = q at *
    generalize hp : W0.heap.size = p at *
    clear hp hq
    go_wp2_with fail
    go_loopw [43] (fun i W => UpInv w b g k p q S x ps m i W) (fun i _ => (m - intOf i).toNat)
    case atStart => exact H0.out
    case round =>
      obtain ⟨d, rfl, hd, hr, hp, hq, ht, S', Tx', sh', hb, hs', hsr, hsp, hsq⟩ := hrel
      by_cases hlt : d < m
      · obtain ⟨bb, oo, rfl, hbb, hrg⟩ := HDS.out.1 (by omega)
        have HRG := Lib.hid (range_of (ht.block bb hbb (HOFF.out _ rfl)) (hrg d hlt))
        have hyd := HDS.out.2 d
        have hsd := upS_dig (k := k) (ps := ps) HX.out d
        have hy32 : (dA (ps d)).size = 32 := by rw [rowV_size]
        have hsz32 : (dA (upS k x ps d)).size = 32 := by rw [rowV_size]
        have HIY := Lib.hid (info_dig hy32)
        have HIYL : Hid ((Tryz.prog.info? 36).map (·.size) = some (dA (ps d)).toList.length) := Lib.hid (by rw [Array.length_toList]; exact info_dig hy32)
        have HIS := Lib.hid (info_dig hsz32)
        have HOY : Hid ((dA (ps d)).all (·.oneCell') = true) := Lib.hid (dA_one _)
        have HOS : Hid ((dA (upS k x ps d)).all (·.oneCell') = true) := Lib.hid (dA_one _)
        have HZY : Hid ((zeros 32).size = (dA (ps d)).size) := Lib.hid (by rw [hy32]; simp [zeros])
        have HZS : Hid ((zeros 32).size = (dA (upS k x ps d)).size) := Lib.hid (by rw [hsz32]; simp [zeros])
        have HYD := Lib.hid hyd
        have HSD := Lib.hid hsd
        obtain ⟨W1, hW1⟩ : ∃ W1, W1 = (wr.alloc (.cells (zeros 32) 36)).setRow wr.heap.size (dA (ps d)) := ⟨_, rfl⟩
        have hbw : Below wr.heap.size wr W1 := by rw [hW1]; exact below_setRow ((Below.refl _ _).alloc (Nat.le_refl _) _) (Nat.le_refl _) _
        have h15 := heap_alloc_new wr (.cells (zeros 32) 36)
        have HP15 : Hid (W1.heap[wr.heap.size]? = some (.cells (dA (ps d)) 36 (0, 0))) := Lib.hid (by rw [hW1]; exact setRow_heap _ _ _ _ _ _ h15)
        have HRR1 := Lib.hid ((hbw.block _ (blk_lt hr)).trans hr)
        have HPP1 := Lib.hid ((hbw.block _ (blk_lt hp)).trans hp)
        have HQQ1 := Lib.hid ((hbw.block _ (blk_lt hq)).trans hq)
        have HBK1 := Lib.hid (hb.below hbw)
        have HT1 : Hid (Turns S w W1) := Lib.hid (ht.trans (S' := S) (Turns.of_below hbw) (fun _ _ z => z))
        have H15 := Lib.hid h15
        have HW1 := Lib.hid hW1
        have HSS := Lib.hid hs'
        have HSN : Hid (¬ S' (w.heap.size + 1) ∧ ¬ S' p ∧ ¬ S' q) := Lib.hid ⟨hsr, hsp, hsq⟩
        obtain ⟨yd, hydd⟩ : ∃ z, z = dA (ps d) := ⟨_, rfl⟩
        obtain ⟨sd, hsdd⟩ : ∃ z, z = dA (upS k x ps d) := ⟨_, rfl⟩
        have hxa : yd.toList.toArray = yd := by simp
        rw [← hydd] at HRG HIY HIYL HOY HZY HP15 HW1
        rw [← hsdd] at HIS HOS HZS HQQ1
        have HYDD := Lib.hid hydd
        have HSDD := Lib.hid hsdd
        have hm10' : d ≤ 10 := by omega
        clear hr hp hq ht hb hs' hsr hsp hsq hrg hyd hsd hy32 hsz32 hW1 hbw h15 hydd hsdd H0
        go_upto_region 7 with (first
          | (with_reducible refine wpList_load_mid rfl 36 (.tmp 45) rfl bb (oo + d * 32) rfl yd.toList _ HRG.out Tryz.underlying36 rfl HIYL.out ?_)
          | (with_reducible refine wpList_store_row rfl 36 (.tmp 15) (.tmp 46) rfl _ _ rfl (by simp [Act.eval, Act.put]) 36 _ H15.out HIY.out HZY.out HOY.out ?_))
        rw [← HW1.out]
        generalize hp15 : wr.heap.size = p15 at *
        have HK7 : Hid (∀ W, Below W1.heap.size W1 W → W.heap[q]? = some (.cells sd 36 (0, 0)) ∧ W.heap[p15]? = some (.cells yd 36 (0, 0)) ∧ Below W1.heap.size W1 W) := Lib.hid (fun W hW => ⟨(hW.block _ (blk_lt HQQ1.out)).trans HQQ1.out, (hW.block _ (blk_lt HP15.out)).trans HP15.out, hW⟩)
        refine wp_region_F (S := (fun W : World => W.heap[q]? = some (.cells sd 36 (0, 0)) ∧ W.heap[p15]? = some (.cells yd 36 (0, 0)) ∧ Below W1.heap.size W1 W)) [] (by kernel_rfl) (HK7.out _ ((Below.refl _ _).drew)) (fun hHeld => ?_)
        refine wpAnyF_take (i := 0) (oi := _) (v := _) rfl (by kernel_rfl) (by kernel_rfl) (by kernel_rfl) (by kernel_rfl) (fun _ _ _ h => h) (yields_rowU (by rfl) 36 (.tmp 13) rfl q 0 rfl sd _ (fun W h => range_cells h.1) Tryz.underlying36 rfl HIS.out) (by assumption) ?_
        (try simp only [Act.put, List.getElem_toArray, List.getElem_cons_succ, List.getElem_cons_zero, List.setIfInBounds_toArray, List.set_cons_zero, List.set_cons_succ])
        refine wpAnyF_take (i := 1) (oi := _) (v := _) rfl (by kernel_rfl) (by kernel_rfl) (by kernel_rfl) (by kernel_rfl) (fun _ _ _ h => h) (yields_rowU (by rfl) 36 (.tmp 15) rfl p15 0 rfl yd _ (fun W h => range_cells h.2.1) Tryz.underlying36 rfl HIY.out) (by assumption) ?_
        (try simp only [Act.put, List.getElem_toArray, List.getElem_cons_succ, List.getElem_cons_zero, List.setIfInBounds_toArray, List.set_cons_zero, List.set_cons_succ])
        refine wpAnyF_ready (rs := [2, 3]) (by kernel_rfl) (by simp) ?_
        refine AllReadyF.cons (o := _) rfl (fun K hK => ?_) (AllReadyF.cons (o := _) rfl (fun K hK => ?_) AllReadyF.nil)
        · go_simp
          refine hK.out _ _ (HK7.out _ ((hHeld.2.2).alloc hHeld.2.2.size _)) (fun hHeld2 => ?_)
          clear hK K
          (try simp only [Act.put, List.getElem_toArray, List.getElem_cons_succ, List.getElem_cons_zero, List.setIfInBounds_toArray, List.set_cons_zero, List.set_cons_succ])
          refine wpAnyF_ready (rs := [3]) (by kernel_rfl) (by simp) ?_
          refine AllReadyF.cons (o := _) rfl (fun K hK => ?_) AllReadyF.nil
          go_simp
          refine hK.out _ _ (HK7.out _ ((hHeld2.2.2).alloc hHeld2.2.2.size _)) (fun hHeld3 => ?_)
          clear hK K
          (try simp only [Act.put, List.getElem_toArray, List.getElem_cons_succ, List.getElem_cons_zero, List.setIfInBounds_toArray, List.set_cons_zero, List.set_cons_succ])
          have h2 := two_at W1 (.cells (zeros 32) 36) (.cells (zeros 32) 36)
          have HV : Hid (((W1.alloc (.cells (zeros 32) 36)).alloc (.cells (zeros 32) 36)).drew.heap[W1.heap.size]? = some (.cells (zeros 32) 36 (0, 0)) ∧ ((W1.alloc (.cells (zeros 32) 36)).alloc (.cells (zeros 32) 36)).drew.heap[(W1.heap.size + 1)]? = some (.cells (zeros 32) 36 (0, 0)) ∧ Below W1.heap.size W1 ((W1.alloc (.cells (zeros 32) 36)).alloc (.cells (zeros 32) 36)).drew) := Lib.hid ⟨h2.1, h2.2.1, h2.2.2.1.drew⟩
          clear h2
          refine wpAnyF_ready (rs := [4]) (by kernel_rfl) (by simp) ?_
          refine AllReadyF.cons (o := _) rfl (fun K hK => ?_) AllReadyF.nil
          rw [if_pos (by kernel_rfl)]
          refine wp_store_row 36 (.tmp 16) (.tmp 47) rfl W1.heap.size sd rfl rfl _ (zeros 32) HV.out.1 HIS.out HZS.out HOS.out ?_
          refine hK.out _ _ (HK7.out _ (below_setRow hHeld3.2.2 (by omega) _)) (fun hHeld4 => ?_)
          clear hK K
          (try simp only [Act.put, List.getElem_toArray, List.getElem_cons_succ, List.getElem_cons_zero, List.setIfInBounds_toArray, List.set_cons_zero, List.set_cons_succ])
          refine wpAnyF_ready (rs := [5]) (by kernel_rfl) (by simp) ?_
          refine AllReadyF.cons (o := _) rfl (fun K hK => ?_) AllReadyF.nil
          rw [if_pos (by kernel_rfl)]
          refine wp_store_row 36 (.tmp 17) (.tmp 48) rfl (W1.heap.size + 1) yd rfl rfl _ (zeros 32) ((setRow_other _ _ _ _ (by omega)).trans HV.out.2.1) HIY.out HZY.out HOY.out ?_
          refine hK.out _ _ (HK7.out _ (below_setRow hHeld4.2.2 (by omega) _)) (fun hHeld5 => ?_)
          clear hK K
          (try simp only [Act.put, List.getElem_toArray, List.getElem_cons_succ, List.getElem_cons_zero, List.setIfInBounds_toArray, List.set_cons_zero, List.set_cons_succ])
          refine wpAnyF_done (by kernel_rfl) ?_ _
          have h3 := two_set (P := sd) (X := yd) HV.out.2.2 HV.out.1 HV.out.2.1 (by omega) (by omega) (by omega)
          generalize hW2 : ((((W1.alloc (.cells (zeros 32) 36)).alloc (.cells (zeros 32) 36)).drew.setRow W1.heap.size sd).setRow (W1.heap.size + 1) yd) = W2 at h3
          have HR2 := Lib.hid ((h3.2.2.block _ (blk_lt HRR1.out)).trans HRR1.out)
          have HP2 := Lib.hid ((h3.2.2.block _ (blk_lt HPP1.out)).trans HPP1.out)
          have HQ2 := Lib.hid ((h3.2.2.block _ (blk_lt HQQ1.out)).trans HQQ1.out)
          have HBK2 := Lib.hid (HBK1.out.below h3.2.2)
          have HT2 : Hid (Turns S w W2) := Lib.hid (HT1.out.trans (S' := S) (Turns.of_below h3.2.2) (fun _ _ z => z))
          have HA2 := Lib.hid h3.1
          have HB2 := Lib.hid h3.2.1
          have HPQ2 : Hid (p < W1.heap.size ∧ q < W1.heap.size ∧ p < (W1.heap.size + 1) ∧ q < (W1.heap.size + 1) ∧ w.heap.size + 1 < W1.heap.size ∧ w.heap.size + 1 < (W1.heap.size + 1) ∧ W1.heap.size ≠ (W1.heap.size + 1)) := Lib.hid (by have := blk_lt HPP1.out; have := blk_lt HQQ1.out; have := blk_lt HRR1.out; omega)
          have HNP : Hid (¬ S' W1.heap.size ∧ ¬ S' (W1.heap.size + 1)) := Lib.hid ⟨fun z => by have := HBK1.out.sub z; omega, fun z => by have := HBK1.out.sub z; omega⟩
          have HLW : Hid (w.heap.size ≤ W1.heap.size ∧ w.heap.size ≤ (W1.heap.size + 1)) := Lib.hid (by have := HT1.out.size; omega)
          clear hW2 hHeld hHeld2 hHeld3 hHeld4 hHeld5 h3 HK7 HV HP15 HRR1 HPP1 HQQ1 HBK1 HT1
          generalize hq7 : (W1.heap.size + 1) = a17 at *
          generalize hp7 : W1.heap.size = a16 at *
          clear hp7 hq7
          obtain ⟨kd, hkd⟩ : ∃ kd, kd = k / 2 ^ d := ⟨_, rfl⟩
          have hkdb : kd ≤ 1024 := by rw [hkd]; exact Nat.le_trans (Nat.div_le_self _ _) (by omega)
          have HKD := Lib.hid hkd
          rw [← hkd] at HP2
          have c0 := blk_cell HP2.out 0
          have c1 := blk_cell HP2.out 1
          simp only [List.getElem?_toArray, List.getElem?_cons_zero, List.getElem?_cons_succ] at c0 c1
          have HRT := Lib.hid (fun W => right_any d kd (by omega) W)
          have HAB := Lib.hid (fun W => above_any d kd (by omega) (by omega) W)
          clear hkd hxa
          by_cases hpar : kd % 2 = 1
          · have hpb : (kd % 2 == 1) = true := by rw [beq_iff_eq]; exact hpar
            rw [hpb] at HRT
            go_wp2_with fail
            refine (HRT.out _).mono ?_
            rintro e w4 ⟨rfl, hb4⟩
            have HA4 := Lib.hid ((hb4.block _ (blk_lt HA2.out)).trans HA2.out)
            have HB4 := Lib.hid ((hb4.block _ (blk_lt HB2.out)).trans HB2.out)
            have HBK4 := Lib.hid (HBK2.out.below hb4)
            have HT4 : Hid (Turns S w w4) := Lib.hid (HT2.out.trans (S' := S) (Turns.of_below hb4) (fun _ _ z => z))
            obtain ⟨W5, hW5⟩ : ∃ W5, W5 = (w4.setRow a16 yd).setRow a17 sd := ⟨_, rfl⟩
            have h5 : ∀ j, j ≠ a16 → j ≠ a17 → W5.heap[j]? = w4.heap[j]? := fun j h1 h2 => by rw [hW5]; exact (setRow_other _ _ _ _ h2).trans (setRow_other _ _ _ _ h1)
            have HA5 : Hid (W5.heap[a16]? = some (.cells yd 36 (0, 0))) := Lib.hid (by rw [hW5]; exact (setRow_other _ _ _ _ (by have := HPQ2.out; omega)).trans (setRow_heap _ _ _ _ _ _ HA4.out))
            have HB5 : Hid (W5.heap[a17]? = some (.cells sd 36 (0, 0))) := Lib.hid (by rw [hW5]; exact setRow_heap _ _ _ _ _ _ ((setRow_other _ _ _ _ (by have := HPQ2.out; omega)).trans HB4.out))
            have HP5 := Lib.hid ((h5 p (by have := HPQ2.out; omega) (by have := HPQ2.out; omega)).trans ((hb4.block _ (blk_lt HP2.out)).trans HP2.out))
            have HQ5 := Lib.hid ((h5 q (by have := HPQ2.out; omega) (by have := HPQ2.out; omega)).trans ((hb4.block _ (blk_lt HQ2.out)).trans HQ2.out))
            have HR5 := Lib.hid ((h5 (w.heap.size + 1) (by have := HPQ2.out; omega) (by have := HPQ2.out; omega)).trans ((hb4.block _ (blk_lt HR2.out)).trans HR2.out))
            have HBK5 : Hid (IsBook W5 b g S' Tx' sh') := Lib.hid (by rw [hW5]; exact bk_setRow (bk_setRow HBK4.out HNP.out.1 _) HNP.out.2 _)
            have HT5 : Hid (Turns S w W5) := Lib.hid (by rw [hW5]; exact tS_setRow (tS_setRow HT4.out HLW.out.1 _) HLW.out.2 _)
            have HSY : Hid (sd.size = yd.size) := Lib.hid (HZS.out.symm.trans HZY.out)
            have HYS : Hid (yd.size = sd.size) := Lib.hid HSY.out.symm
            have HBX : Hid ((w4.setRow a16 yd).heap[a17]? = some (.cells yd 36 (0, 0))) := Lib.hid ((setRow_other _ _ _ _ (by have := HPQ2.out; omega)).trans HB4.out)
            have HW5 := Lib.hid hW5
            clear hW5 h5 hb4 c0 c1
            have c0 := blk_cell HP5.out 0
            have c1 := blk_cell HP5.out 1
            simp only [List.getElem?_toArray, List.getElem?_cons_zero, List.getElem?_cons_succ] at c0 c1
            go_wp2_with (first
              | (with_reducible refine wpList_load_row rfl 36 (.tmp 17) rfl _ rfl 36 _ _ _ HB4.out Tryz.underlying36 rfl HIY.out ?_)
              | (with_reducible refine wpList_load_row rfl 36 (.tmp 16) rfl _ rfl 36 _ _ _ HA4.out Tryz.underlying36 rfl HIS.out ?_)
              | (with_reducible refine wpList_store_row rfl 36 (.tmp 16) (.tmp 51) rfl _ _ rfl rfl 36 _ HA4.out HIY.out HSY.out HOY.out ?_)
              | (with_reducible refine wpList_store_row rfl 36 (.tmp 17) (.tmp 52) rfl _ _ rfl rfl 36 _ HBX.out HIS.out HYS.out HOS.out ?_; rw [← HW5.out]))
            refine (HAB.out _).mono ?_
            rintro e w6 ⟨rfl, hb6⟩
            have HA6 := Lib.hid ((hb6.block _ (blk_lt HA5.out)).trans HA5.out)
            have HB6 := Lib.hid ((hb6.block _ (blk_lt HB5.out)).trans HB5.out)
            have HP6 := Lib.hid ((hb6.block _ (blk_lt HP5.out)).trans HP5.out)
            have HQ6 := Lib.hid ((hb6.block _ (blk_lt HQ5.out)).trans HQ5.out)
            have HR6 := Lib.hid ((hb6.block _ (blk_lt HR5.out)).trans HR5.out)
            have HBK6 := Lib.hid (HBK5.out.below hb6)
            have HT6 : Hid (Turns S w w6) := Lib.hid (HT5.out.trans (S' := S) (Turns.of_below hb6) (fun _ _ z => z))
            clear hb6 c0 c1
            obtain ⟨W7, hW7⟩ : ∃ W7, W7 = w6.setRow p #[.int .i64 ((d : Int) + 1), .int .i64 ((kd : Int) / 2)] := ⟨_, rfl⟩
            have HA7 : Hid (W7.heap[a16]? = some (.cells yd 36 (0, 0))) := Lib.hid (by rw [hW7]; exact (setRow_other _ _ _ _ (by have := HPQ2.out; omega)).trans HA6.out)
            have HB7 : Hid (W7.heap[a17]? = some (.cells sd 36 (0, 0))) := Lib.hid (by rw [hW7]; exact (setRow_other _ _ _ _ (by have := HPQ2.out; omega)).trans HB6.out)
            have HP7 : Hid (W7.heap[p]? = some (.cells #[.int .i64 ((d : Int) + 1), .int .i64 ((kd : Int) / 2)] 55 (0, 0))) := Lib.hid (by rw [hW7]; exact setRow_heap _ _ _ _ _ _ HP6.out)
            have HQ7 : Hid (W7.heap[q]? = some (.cells sd 36 (0, 0))) := Lib.hid (by rw [hW7]; exact (setRow_other _ _ _ _ (by have := HPQ.out; omega)).trans HQ6.out)
            have HR7 : Hid (W7.heap[w.heap.size + 1]? = some (.cells (zeros 32) 36 (0, 0))) := Lib.hid (by rw [hW7]; exact (setRow_other _ _ _ _ (by have := HPQ.out; omega)).trans HR6.out)
            have HBK7 : Hid (IsBook W7 b g S' Tx' sh') := Lib.hid (by rw [hW7]; exact bk_setRow HBK6.out HSN.out.2.1 _)
            have HT7 : Hid (Turns S w W7) := Lib.hid (by rw [hW7]; exact tS_setRow HT6.out (by have := HPQ.out; omega) _)
            have HPS := Lib.hid (psum_any b g (d + 1) (kd / 2) (ps d) (upS k x ps d) S' Tx' sh' W7 HBK7.out (by omega) (by omega) HYD.out HSD.out)
            rw [Int.natCast_add, Int.natCast_ediv, Int.natCast_one, show ((2 : Nat) : Int) = 2 from rfl] at HPS
            rw [← HYDD.out, ← HSDD.out] at HPS
            obtain ⟨da, hda⟩ : ∃ z, z = digA (txt 1 [putL 1 (d + 1), putL 4 (kd / 2), (ps d), (upS k x ps d)]) := ⟨_, rfl⟩
            have hda2 : da.size = 32 := by rw [hda]; unfold digA; rw [rowV_size]
            have HIA := Lib.hid (info_dig hda2)
            have HOA : Hid (da.all (·.oneCell') = true) := Lib.hid (by rw [hda]; exact one_dig _)
            have HZA : Hid (sd.size = da.size) := Lib.hid (by rw [hda2, ← HZS.out]; simp [zeros])
            have HDA := Lib.hid hda
            have hUP : da = dA (upS k x ps (d + 1)) := by
              rw [hda, upS, ← HKD.out]
              have e1 : k / 2 ^ (d + 1) = kd / 2 := by rw [HKD.out, Nat.pow_succ, Nat.div_div_eq_div_mul]
              rw [e1, if_pos hpar, if_pos hpar]
              rfl
            have HUP := Lib.hid hUP
            have HW7 := Lib.hid hW7
            have HKE : Hid (kd / 2 = k / 2 ^ (d + 1)) := Lib.hid (by rw [HKD.out, Nat.pow_succ, Nat.div_div_eq_div_mul])
            clear hW7 hda hda2 hUP
            have c0 := blk_cell HP7.out 0
            have c1 := blk_cell HP7.out 1
            simp only [List.getElem?_toArray, List.getElem?_cons_zero, List.getElem?_cons_succ] at c0 c1
            go_wp2_with (first
              | (with_reducible refine wpList_store_row rfl 55 (.tmp 12) (.tmp 54) rfl _ _ rfl rfl 55 _ HP6.out (info_pl2 _ _) (sz_pl _ _ _ _) (one_pl _ _) ?_; rw [← HW7.out])
              | (with_reducible refine wpList_load_row rfl 36 (.tmp 16) rfl _ rfl 36 _ _ _ HA7.out Tryz.underlying36 rfl HIY.out ?_)
              | (with_reducible refine wpList_load_row rfl 36 (.tmp 17) rfl _ rfl 36 _ _ _ HB7.out Tryz.underlying36 rfl HIS.out ?_))
            refine (HPS.out).mono ?_
            rintro e w8 ⟨he, ht8, hb8⟩
            rw [← HDA.out] at he
            subst he
            have HQ8 := Lib.hid (turnsU ht8 HSN.out.2.2 HQ7.out)
            have HT8 : Hid (Turns S w w8) := Lib.hid (HT7.out.trans (S' := S') ht8 (fun j hj hj' => (HSS.out j hj').elim id (fun c => by omega)))
            have HR8 := turnsU ht8 HSN.out.1 HR7.out
            have HP8 := turnsU ht8 HSN.out.2.1 HP7.out
            have hlp := blk_lt HP7.out
            have hlq := blk_lt HQ7.out
            have hlr := blk_lt HR7.out
            have hsz7 := HT7.out.size
            obtain ⟨W9, hW9⟩ : ∃ W9, W9 = w8.setRow q da := ⟨_, rfl⟩
            have H9 : Hid (UpInv w b g k p q S x ps m (.int .i64 ((d : Int) + 1)) W9) := Lib.hid (by
              rw [hW9]
              refine ⟨d + 1, rfl, hlt, (setRow_other _ _ _ _ (by have := HPQ.out; omega)).trans HR8, ?_, ?_, tS_setRow HT8.out (by have := HPQ.out; omega) _, _, _, _, bk_setRow hb8 (fun z => z.elim HSN.out.2.2 (fun c => by omega)) _, fun j hj => hj.elim (HSS.out j) (fun c => .inr (by omega)), fun z => z.elim HSN.out.1 (fun c => by omega), fun z => z.elim HSN.out.2.1 (fun c => by omega), fun z => z.elim HSN.out.2.2 (fun c => by omega)⟩
              · rw [← HKE.out, Int.natCast_add, Int.natCast_ediv]
                exact (setRow_other _ _ _ _ (by have := HPQ.out; omega)).trans HP8
              · rw [← HUP.out]
                exact setRow_heap _ _ _ _ _ _ HQ8.out)
            have HW9 := Lib.hid hW9
            clear ht8 hb8 HR8 HP8 hlp hlq hlr hsz7 hW9
            go_wp2_with (with_reducible refine wpList_store_row rfl 36 (.tmp 13) (.tmp 59) rfl _ _ rfl rfl 36 _ HQ8.out HIA.out HZA.out HOA.out ?_; rw [← HW9.out])
            go_roundw
            case rel => exact H9.out
            case measure => simp [intOf]; omega
          · have hpb : (kd % 2 == 1) = false := by rw [beq_eq_false_iff_ne]; exact hpar
            rw [hpb] at HRT
            go_wp2_with fail
            refine (HRT.out _).mono ?_
            rintro e w4 ⟨rfl, hb4⟩
            have HA5 := Lib.hid ((hb4.block _ (blk_lt HA2.out)).trans HA2.out)
            have HB5 := Lib.hid ((hb4.block _ (blk_lt HB2.out)).trans HB2.out)
            have HP5 := Lib.hid ((hb4.block _ (blk_lt HP2.out)).trans HP2.out)
            have HQ5 := Lib.hid ((hb4.block _ (blk_lt HQ2.out)).trans HQ2.out)
            have HR5 := Lib.hid ((hb4.block _ (blk_lt HR2.out)).trans HR2.out)
            have HBK5 := Lib.hid (HBK2.out.below hb4)
            have HT5 : Hid (Turns S w w4) := Lib.hid (HT2.out.trans (S' := S) (Turns.of_below hb4) (fun _ _ z => z))
            clear hb4 c0 c1
            have c0 := blk_cell HP5.out 0
            have c1 := blk_cell HP5.out 1
            simp only [List.getElem?_toArray, List.getElem?_cons_zero, List.getElem?_cons_succ] at c0 c1
            go_wp2_with fail
            refine (HAB.out _).mono ?_
            rintro e w6 ⟨rfl, hb6⟩
            have HA6 := Lib.hid ((hb6.block _ (blk_lt HA5.out)).trans HA5.out)
            have HB6 := Lib.hid ((hb6.block _ (blk_lt HB5.out)).trans HB5.out)
            have HP6 := Lib.hid ((hb6.block _ (blk_lt HP5.out)).trans HP5.out)
            have HQ6 := Lib.hid ((hb6.block _ (blk_lt HQ5.out)).trans HQ5.out)
            have HR6 := Lib.hid ((hb6.block _ (blk_lt HR5.out)).trans HR5.out)
            have HBK6 := Lib.hid (HBK5.out.below hb6)
            have HT6 : Hid (Turns S w w6) := Lib.hid (HT5.out.trans (S' := S) (Turns.of_below hb6) (fun _ _ z => z))
            clear hb6 c0 c1
            obtain ⟨W7, hW7⟩ : ∃ W7, W7 = w6.setRow p #[.int .i64 ((d : Int) + 1), .int .i64 ((kd : Int) / 2)] := ⟨_, rfl⟩
            have HA7 : Hid (W7.heap[a16]? = some (.cells sd 36 (0, 0))) := Lib.hid (by rw [hW7]; exact (setRow_other _ _ _ _ (by have := HPQ2.out; omega)).trans HA6.out)
            have HB7 : Hid (W7.heap[a17]? = some (.cells yd 36 (0, 0))) := Lib.hid (by rw [hW7]; exact (setRow_other _ _ _ _ (by have := HPQ2.out; omega)).trans HB6.out)
            have HP7 : Hid (W7.heap[p]? = some (.cells #[.int .i64 ((d : Int) + 1), .int .i64 ((kd : Int) / 2)] 55 (0, 0))) := Lib.hid (by rw [hW7]; exact setRow_heap _ _ _ _ _ _ HP6.out)
            have HQ7 : Hid (W7.heap[q]? = some (.cells sd 36 (0, 0))) := Lib.hid (by rw [hW7]; exact (setRow_other _ _ _ _ (by have := HPQ.out; omega)).trans HQ6.out)
            have HR7 : Hid (W7.heap[w.heap.size + 1]? = some (.cells (zeros 32) 36 (0, 0))) := Lib.hid (by rw [hW7]; exact (setRow_other _ _ _ _ (by have := HPQ.out; omega)).trans HR6.out)
            have HBK7 : Hid (IsBook W7 b g S' Tx' sh') := Lib.hid (by rw [hW7]; exact bk_setRow HBK6.out HSN.out.2.1 _)
            have HT7 : Hid (Turns S w W7) := Lib.hid (by rw [hW7]; exact tS_setRow HT6.out (by have := HPQ.out; omega) _)
            have HPS := Lib.hid (psum_any b g (d + 1) (kd / 2) (upS k x ps d) (ps d) S' Tx' sh' W7 HBK7.out (by omega) (by omega) HSD.out HYD.out)
            rw [Int.natCast_add, Int.natCast_ediv, Int.natCast_one, show ((2 : Nat) : Int) = 2 from rfl] at HPS
            rw [← HSDD.out, ← HYDD.out] at HPS
            obtain ⟨da, hda⟩ : ∃ z, z = digA (txt 1 [putL 1 (d + 1), putL 4 (kd / 2), (upS k x ps d), (ps d)]) := ⟨_, rfl⟩
            have hda2 : da.size = 32 := by rw [hda]; unfold digA; rw [rowV_size]
            have HIA := Lib.hid (info_dig hda2)
            have HOA : Hid (da.all (·.oneCell') = true) := Lib.hid (by rw [hda]; exact one_dig _)
            have HZA : Hid (sd.size = da.size) := Lib.hid (by rw [hda2, ← HZS.out]; simp [zeros])
            have HDA := Lib.hid hda
            have hUP : da = dA (upS k x ps (d + 1)) := by
              rw [hda, upS, ← HKD.out]
              have e1 : k / 2 ^ (d + 1) = kd / 2 := by rw [HKD.out, Nat.pow_succ, Nat.div_div_eq_div_mul]
              rw [e1, if_neg hpar, if_neg hpar]
              rfl
            have HUP := Lib.hid hUP
            have HW7 := Lib.hid hW7
            have HKE : Hid (kd / 2 = k / 2 ^ (d + 1)) := Lib.hid (by rw [HKD.out, Nat.pow_succ, Nat.div_div_eq_div_mul])
            clear hW7 hda hda2 hUP
            have c0 := blk_cell HP7.out 0
            have c1 := blk_cell HP7.out 1
            simp only [List.getElem?_toArray, List.getElem?_cons_zero, List.getElem?_cons_succ] at c0 c1
            go_wp2_with (first
              | (with_reducible refine wpList_store_row rfl 55 (.tmp 12) (.tmp 54) rfl _ _ rfl rfl 55 _ HP6.out (info_pl2 _ _) (sz_pl _ _ _ _) (one_pl _ _) ?_; rw [← HW7.out])
              | (with_reducible refine wpList_load_row rfl 36 (.tmp 16) rfl _ rfl 36 _ _ _ HA7.out Tryz.underlying36 rfl HIS.out ?_)
              | (with_reducible refine wpList_load_row rfl 36 (.tmp 17) rfl _ rfl 36 _ _ _ HB7.out Tryz.underlying36 rfl HIY.out ?_))
            refine (HPS.out).mono ?_
            rintro e w8 ⟨he, ht8, hb8⟩
            rw [← HDA.out] at he
            subst he
            have HQ8 := Lib.hid (turnsU ht8 HSN.out.2.2 HQ7.out)
            have HT8 : Hid (Turns S w w8) := Lib.hid (HT7.out.trans (S' := S') ht8 (fun j hj hj' => (HSS.out j hj').elim id (fun c => by omega)))
            have HR8 := turnsU ht8 HSN.out.1 HR7.out
            have HP8 := turnsU ht8 HSN.out.2.1 HP7.out
            have hlp := blk_lt HP7.out
            have hlq := blk_lt HQ7.out
            have hlr := blk_lt HR7.out
            have hsz7 := HT7.out.size
            obtain ⟨W9, hW9⟩ : ∃ W9, W9 = w8.setRow q da := ⟨_, rfl⟩
            have H9 : Hid (UpInv w b g k p q S x ps m (.int .i64 ((d : Int) + 1)) W9) := Lib.hid (by
              rw [hW9]
              refine ⟨d + 1, rfl, hlt, (setRow_other _ _ _ _ (by have := HPQ.out; omega)).trans HR8, ?_, ?_, tS_setRow HT8.out (by have := HPQ.out; omega) _, _, _, _, bk_setRow hb8 (fun z => z.elim HSN.out.2.2 (fun c => by omega)) _, fun j hj => hj.elim (HSS.out j) (fun c => .inr (by omega)), fun z => z.elim HSN.out.1 (fun c => by omega), fun z => z.elim HSN.out.2.1 (fun c => by omega), fun z => z.elim HSN.out.2.2 (fun c => by omega)⟩
              · rw [← HKE.out, Int.natCast_add, Int.natCast_ediv]
                exact (setRow_other _ _ _ _ (by have := HPQ.out; omega)).trans HP8
              · rw [← HUP.out]
                exact setRow_heap _ _ _ _ _ _ HQ8.out)
            have HW9 := Lib.hid hW9
            clear ht8 hb8 HR8 HP8 hlp hlq hlr hsz7 hW9
            go_wp2_with (with_reducible refine wpList_store_row rfl 36 (.tmp 13) (.tmp 59) rfl _ _ rfl rfl 36 _ HQ8.out HIA.out HZA.out HOA.out ?_; rw [← HW9.out])
            go_roundw
            case rel => exact H9.out
            case measure => simp [intOf]; omega
        · go_simp
          refine hK.out _ _ (HK7.out _ ((hHeld.2.2).alloc hHeld.2.2.size _)) (fun hHeld3 => ?_)
          clear hK K
          (try simp only [Act.put, List.getElem_toArray, List.getElem_cons_succ, List.getElem_cons_zero, List.setIfInBounds_toArray, List.set_cons_zero, List.set_cons_succ])
          refine wpAnyF_ready (rs := [2]) (by kernel_rfl) (by simp) ?_
          refine AllReadyF.cons (o := _) rfl (fun K hK => ?_) AllReadyF.nil
          go_simp
          refine hK.out _ _ (HK7.out _ ((hHeld3.2.2).alloc hHeld3.2.2.size _)) (fun hHeld2 => ?_)
          clear hK K
          (try simp only [Act.put, List.getElem_toArray, List.getElem_cons_succ, List.getElem_cons_zero, List.setIfInBounds_toArray, List.set_cons_zero, List.set_cons_succ])
          have h2 := two_at W1 (.cells (zeros 32) 36) (.cells (zeros 32) 36)
          have HV : Hid (((W1.alloc (.cells (zeros 32) 36)).alloc (.cells (zeros 32) 36)).drew.heap[(W1.heap.size + 1)]? = some (.cells (zeros 32) 36 (0, 0)) ∧ ((W1.alloc (.cells (zeros 32) 36)).alloc (.cells (zeros 32) 36)).drew.heap[W1.heap.size]? = some (.cells (zeros 32) 36 (0, 0)) ∧ Below W1.heap.size W1 ((W1.alloc (.cells (zeros 32) 36)).alloc (.cells (zeros 32) 36)).drew) := Lib.hid ⟨h2.2.1, h2.1, h2.2.2.1.drew⟩
          clear h2
          refine wpAnyF_ready (rs := [4]) (by kernel_rfl) (by simp) ?_
          refine AllReadyF.cons (o := _) rfl (fun K hK => ?_) AllReadyF.nil
          rw [if_pos (by kernel_rfl)]
          refine wp_store_row 36 (.tmp 16) (.tmp 47) rfl (W1.heap.size + 1) sd rfl rfl _ (zeros 32) HV.out.1 HIS.out HZS.out HOS.out ?_
          refine hK.out _ _ (HK7.out _ (below_setRow hHeld2.2.2 (by omega) _)) (fun hHeld4 => ?_)
          clear hK K
          (try simp only [Act.put, List.getElem_toArray, List.getElem_cons_succ, List.getElem_cons_zero, List.setIfInBounds_toArray, List.set_cons_zero, List.set_cons_succ])
          refine wpAnyF_ready (rs := [5]) (by kernel_rfl) (by simp) ?_
          refine AllReadyF.cons (o := _) rfl (fun K hK => ?_) AllReadyF.nil
          rw [if_pos (by kernel_rfl)]
          refine wp_store_row 36 (.tmp 17) (.tmp 48) rfl W1.heap.size yd rfl rfl _ (zeros 32) ((setRow_other _ _ _ _ (by omega)).trans HV.out.2.1) HIY.out HZY.out HOY.out ?_
          refine hK.out _ _ (HK7.out _ (below_setRow hHeld4.2.2 (by omega) _)) (fun hHeld5 => ?_)
          clear hK K
          (try simp only [Act.put, List.getElem_toArray, List.getElem_cons_succ, List.getElem_cons_zero, List.setIfInBounds_toArray, List.set_cons_zero, List.set_cons_succ])
          refine wpAnyF_done (by kernel_rfl) ?_ _
          have h3 := two_set (P := sd) (X := yd) HV.out.2.2 HV.out.1 HV.out.2.1 (by omega) (by omega) (by omega)
          generalize hW2 : ((((W1.alloc (.cells (zeros 32) 36)).alloc (.cells (zeros 32) 36)).drew.setRow (W1.heap.size + 1) sd).setRow W1.heap.size yd) = W2 at h3
          have HR2 := Lib.hid ((h3.2.2.block _ (blk_lt HRR1.out)).trans HRR1.out)
          have HP2 := Lib.hid ((h3.2.2.block _ (blk_lt HPP1.out)).trans HPP1.out)
          have HQ2 := Lib.hid ((h3.2.2.block _ (blk_lt HQQ1.out)).trans HQQ1.out)
          have HBK2 := Lib.hid (HBK1.out.below h3.2.2)
          have HT2 : Hid (Turns S w W2) := Lib.hid (HT1.out.trans (S' := S) (Turns.of_below h3.2.2) (fun _ _ z => z))
          have HA2 := Lib.hid h3.1
          have HB2 := Lib.hid h3.2.1
          have HPQ2 : Hid (p < (W1.heap.size + 1) ∧ q < (W1.heap.size + 1) ∧ p < W1.heap.size ∧ q < W1.heap.size ∧ w.heap.size + 1 < (W1.heap.size + 1) ∧ w.heap.size + 1 < W1.heap.size ∧ (W1.heap.size + 1) ≠ W1.heap.size) := Lib.hid (by have := blk_lt HPP1.out; have := blk_lt HQQ1.out; have := blk_lt HRR1.out; omega)
          have HNP : Hid (¬ S' (W1.heap.size + 1) ∧ ¬ S' W1.heap.size) := Lib.hid ⟨fun z => by have := HBK1.out.sub z; omega, fun z => by have := HBK1.out.sub z; omega⟩
          have HLW : Hid (w.heap.size ≤ (W1.heap.size + 1) ∧ w.heap.size ≤ W1.heap.size) := Lib.hid (by have := HT1.out.size; omega)
          clear hW2 hHeld hHeld2 hHeld3 hHeld4 hHeld5 h3 HK7 HV HP15 HRR1 HPP1 HQQ1 HBK1 HT1
          generalize hp7 : (W1.heap.size + 1) = a16 at *
          generalize hq7 : W1.heap.size = a17 at *
          clear hp7 hq7
          obtain ⟨kd, hkd⟩ : ∃ kd, kd = k / 2 ^ d := ⟨_, rfl⟩
          have hkdb : kd ≤ 1024 := by rw [hkd]; exact Nat.le_trans (Nat.div_le_self _ _) (by omega)
          have HKD := Lib.hid hkd
          rw [← hkd] at HP2
          have c0 := blk_cell HP2.out 0
          have c1 := blk_cell HP2.out 1
          simp only [List.getElem?_toArray, List.getElem?_cons_zero, List.getElem?_cons_succ] at c0 c1
          have HRT := Lib.hid (fun W => right_any d kd (by omega) W)
          have HAB := Lib.hid (fun W => above_any d kd (by omega) (by omega) W)
          clear hkd hxa
          by_cases hpar : kd % 2 = 1
          · have hpb : (kd % 2 == 1) = true := by rw [beq_iff_eq]; exact hpar
            rw [hpb] at HRT
            go_wp2_with fail
            refine (HRT.out _).mono ?_
            rintro e w4 ⟨rfl, hb4⟩
            have HA4 := Lib.hid ((hb4.block _ (blk_lt HA2.out)).trans HA2.out)
            have HB4 := Lib.hid ((hb4.block _ (blk_lt HB2.out)).trans HB2.out)
            have HBK4 := Lib.hid (HBK2.out.below hb4)
            have HT4 : Hid (Turns S w w4) := Lib.hid (HT2.out.trans (S' := S) (Turns.of_below hb4) (fun _ _ z => z))
            obtain ⟨W5, hW5⟩ : ∃ W5, W5 = (w4.setRow a16 yd).setRow a17 sd := ⟨_, rfl⟩
            have h5 : ∀ j, j ≠ a16 → j ≠ a17 → W5.heap[j]? = w4.heap[j]? := fun j h1 h2 => by rw [hW5]; exact (setRow_other _ _ _ _ h2).trans (setRow_other _ _ _ _ h1)
            have HA5 : Hid (W5.heap[a16]? = some (.cells yd 36 (0, 0))) := Lib.hid (by rw [hW5]; exact (setRow_other _ _ _ _ (by have := HPQ2.out; omega)).trans (setRow_heap _ _ _ _ _ _ HA4.out))
            have HB5 : Hid (W5.heap[a17]? = some (.cells sd 36 (0, 0))) := Lib.hid (by rw [hW5]; exact setRow_heap _ _ _ _ _ _ ((setRow_other _ _ _ _ (by have := HPQ2.out; omega)).trans HB4.out))
            have HP5 := Lib.hid ((h5 p (by have := HPQ2.out; omega) (by have := HPQ2.out; omega)).trans ((hb4.block _ (blk_lt HP2.out)).trans HP2.out))
            have HQ5 := Lib.hid ((h5 q (by have := HPQ2.out; omega) (by have := HPQ2.out; omega)).trans ((hb4.block _ (blk_lt HQ2.out)).trans HQ2.out))
            have HR5 := Lib.hid ((h5 (w.heap.size + 1) (by have := HPQ2.out; omega) (by have := HPQ2.out; omega)).trans ((hb4.block _ (blk_lt HR2.out)).trans HR2.out))
            have HBK5 : Hid (IsBook W5 b g S' Tx' sh') := Lib.hid (by rw [hW5]; exact bk_setRow (bk_setRow HBK4.out HNP.out.1 _) HNP.out.2 _)
            have HT5 : Hid (Turns S w W5) := Lib.hid (by rw [hW5]; exact tS_setRow (tS_setRow HT4.out HLW.out.1 _) HLW.out.2 _)
            have HSY : Hid (sd.size = yd.size) := Lib.hid (HZS.out.symm.trans HZY.out)
            have HYS : Hid (yd.size = sd.size) := Lib.hid HSY.out.symm
            have HBX : Hid ((w4.setRow a16 yd).heap[a17]? = some (.cells yd 36 (0, 0))) := Lib.hid ((setRow_other _ _ _ _ (by have := HPQ2.out; omega)).trans HB4.out)
            have HW5 := Lib.hid hW5
            clear hW5 h5 hb4 c0 c1
            have c0 := blk_cell HP5.out 0
            have c1 := blk_cell HP5.out 1
            simp only [List.getElem?_toArray, List.getElem?_cons_zero, List.getElem?_cons_succ] at c0 c1
            go_wp2_with (first
              | (with_reducible refine wpList_load_row rfl 36 (.tmp 17) rfl _ rfl 36 _ _ _ HB4.out Tryz.underlying36 rfl HIY.out ?_)
              | (with_reducible refine wpList_load_row rfl 36 (.tmp 16) rfl _ rfl 36 _ _ _ HA4.out Tryz.underlying36 rfl HIS.out ?_)
              | (with_reducible refine wpList_store_row rfl 36 (.tmp 16) (.tmp 51) rfl _ _ rfl rfl 36 _ HA4.out HIY.out HSY.out HOY.out ?_)
              | (with_reducible refine wpList_store_row rfl 36 (.tmp 17) (.tmp 52) rfl _ _ rfl rfl 36 _ HBX.out HIS.out HYS.out HOS.out ?_; rw [← HW5.out]))
            refine (HAB.out _).mono ?_
            rintro e w6 ⟨rfl, hb6⟩
            have HA6 := Lib.hid ((hb6.block _ (blk_lt HA5.out)).trans HA5.out)
            have HB6 := Lib.hid ((hb6.block _ (blk_lt HB5.out)).trans HB5.out)
            have HP6 := Lib.hid ((hb6.block _ (blk_lt HP5.out)).trans HP5.out)
            have HQ6 := Lib.hid ((hb6.block _ (blk_lt HQ5.out)).trans HQ5.out)
            have HR6 := Lib.hid ((hb6.block _ (blk_lt HR5.out)).trans HR5.out)
            have HBK6 := Lib.hid (HBK5.out.below hb6)
            have HT6 : Hid (Turns S w w6) := Lib.hid (HT5.out.trans (S' := S) (Turns.of_below hb6) (fun _ _ z => z))
            clear hb6 c0 c1
            obtain ⟨W7, hW7⟩ : ∃ W7, W7 = w6.setRow p #[.int .i64 ((d : Int) + 1), .int .i64 ((kd : Int) / 2)] := ⟨_, rfl⟩
            have HA7 : Hid (W7.heap[a16]? = some (.cells yd 36 (0, 0))) := Lib.hid (by rw [hW7]; exact (setRow_other _ _ _ _ (by have := HPQ2.out; omega)).trans HA6.out)
            have HB7 : Hid (W7.heap[a17]? = some (.cells sd 36 (0, 0))) := Lib.hid (by rw [hW7]; exact (setRow_other _ _ _ _ (by have := HPQ2.out; omega)).trans HB6.out)
            have HP7 : Hid (W7.heap[p]? = some (.cells #[.int .i64 ((d : Int) + 1), .int .i64 ((kd : Int) / 2)] 55 (0, 0))) := Lib.hid (by rw [hW7]; exact setRow_heap _ _ _ _ _ _ HP6.out)
            have HQ7 : Hid (W7.heap[q]? = some (.cells sd 36 (0, 0))) := Lib.hid (by rw [hW7]; exact (setRow_other _ _ _ _ (by have := HPQ.out; omega)).trans HQ6.out)
            have HR7 : Hid (W7.heap[w.heap.size + 1]? = some (.cells (zeros 32) 36 (0, 0))) := Lib.hid (by rw [hW7]; exact (setRow_other _ _ _ _ (by have := HPQ.out; omega)).trans HR6.out)
            have HBK7 : Hid (IsBook W7 b g S' Tx' sh') := Lib.hid (by rw [hW7]; exact bk_setRow HBK6.out HSN.out.2.1 _)
            have HT7 : Hid (Turns S w W7) := Lib.hid (by rw [hW7]; exact tS_setRow HT6.out (by have := HPQ.out; omega) _)
            have HPS := Lib.hid (psum_any b g (d + 1) (kd / 2) (ps d) (upS k x ps d) S' Tx' sh' W7 HBK7.out (by omega) (by omega) HYD.out HSD.out)
            rw [Int.natCast_add, Int.natCast_ediv, Int.natCast_one, show ((2 : Nat) : Int) = 2 from rfl] at HPS
            rw [← HYDD.out, ← HSDD.out] at HPS
            obtain ⟨da, hda⟩ : ∃ z, z = digA (txt 1 [putL 1 (d + 1), putL 4 (kd / 2), (ps d), (upS k x ps d)]) := ⟨_, rfl⟩
            have hda2 : da.size = 32 := by rw [hda]; unfold digA; rw [rowV_size]
            have HIA := Lib.hid (info_dig hda2)
            have HOA : Hid (da.all (·.oneCell') = true) := Lib.hid (by rw [hda]; exact one_dig _)
            have HZA : Hid (sd.size = da.size) := Lib.hid (by rw [hda2, ← HZS.out]; simp [zeros])
            have HDA := Lib.hid hda
            have hUP : da = dA (upS k x ps (d + 1)) := by
              rw [hda, upS, ← HKD.out]
              have e1 : k / 2 ^ (d + 1) = kd / 2 := by rw [HKD.out, Nat.pow_succ, Nat.div_div_eq_div_mul]
              rw [e1, if_pos hpar, if_pos hpar]
              rfl
            have HUP := Lib.hid hUP
            have HW7 := Lib.hid hW7
            have HKE : Hid (kd / 2 = k / 2 ^ (d + 1)) := Lib.hid (by rw [HKD.out, Nat.pow_succ, Nat.div_div_eq_div_mul])
            clear hW7 hda hda2 hUP
            have c0 := blk_cell HP7.out 0
            have c1 := blk_cell HP7.out 1
            simp only [List.getElem?_toArray, List.getElem?_cons_zero, List.getElem?_cons_succ] at c0 c1
            go_wp2_with (first
              | (with_reducible refine wpList_store_row rfl 55 (.tmp 12) (.tmp 54) rfl _ _ rfl rfl 55 _ HP6.out (info_pl2 _ _) (sz_pl _ _ _ _) (one_pl _ _) ?_; rw [← HW7.out])
              | (with_reducible refine wpList_load_row rfl 36 (.tmp 16) rfl _ rfl 36 _ _ _ HA7.out Tryz.underlying36 rfl HIY.out ?_)
              | (with_reducible refine wpList_load_row rfl 36 (.tmp 17) rfl _ rfl 36 _ _ _ HB7.out Tryz.underlying36 rfl HIS.out ?_))
            refine (HPS.out).mono ?_
            rintro e w8 ⟨he, ht8, hb8⟩
            rw [← HDA.out] at he
            subst he
            have HQ8 := Lib.hid (turnsU ht8 HSN.out.2.2 HQ7.out)
            have HT8 : Hid (Turns S w w8) := Lib.hid (HT7.out.trans (S' := S') ht8 (fun j hj hj' => (HSS.out j hj').elim id (fun c => by omega)))
            have HR8 := turnsU ht8 HSN.out.1 HR7.out
            have HP8 := turnsU ht8 HSN.out.2.1 HP7.out
            have hlp := blk_lt HP7.out
            have hlq := blk_lt HQ7.out
            have hlr := blk_lt HR7.out
            have hsz7 := HT7.out.size
            obtain ⟨W9, hW9⟩ : ∃ W9, W9 = w8.setRow q da := ⟨_, rfl⟩
            have H9 : Hid (UpInv w b g k p q S x ps m (.int .i64 ((d : Int) + 1)) W9) := Lib.hid (by
              rw [hW9]
              refine ⟨d + 1, rfl, hlt, (setRow_other _ _ _ _ (by have := HPQ.out; omega)).trans HR8, ?_, ?_, tS_setRow HT8.out (by have := HPQ.out; omega) _, _, _, _, bk_setRow hb8 (fun z => z.elim HSN.out.2.2 (fun c => by omega)) _, fun j hj => hj.elim (HSS.out j) (fun c => .inr (by omega)), fun z => z.elim HSN.out.1 (fun c => by omega), fun z => z.elim HSN.out.2.1 (fun c => by omega), fun z => z.elim HSN.out.2.2 (fun c => by omega)⟩
              · rw [← HKE.out, Int.natCast_add, Int.natCast_ediv]
                exact (setRow_other _ _ _ _ (by have := HPQ.out; omega)).trans HP8
              · rw [← HUP.out]
                exact setRow_heap _ _ _ _ _ _ HQ8.out)
            have HW9 := Lib.hid hW9
            clear ht8 hb8 HR8 HP8 hlp hlq hlr hsz7 hW9
            go_wp2_with (with_reducible refine wpList_store_row rfl 36 (.tmp 13) (.tmp 59) rfl _ _ rfl rfl 36 _ HQ8.out HIA.out HZA.out HOA.out ?_; rw [← HW9.out])
            go_roundw
            case rel => exact H9.out
            case measure => simp [intOf]; omega
          · have hpb : (kd % 2 == 1) = false := by rw [beq_eq_false_iff_ne]; exact hpar
            rw [hpb] at HRT
            go_wp2_with fail
            refine (HRT.out _).mono ?_
            rintro e w4 ⟨rfl, hb4⟩
            have HA5 := Lib.hid ((hb4.block _ (blk_lt HA2.out)).trans HA2.out)
            have HB5 := Lib.hid ((hb4.block _ (blk_lt HB2.out)).trans HB2.out)
            have HP5 := Lib.hid ((hb4.block _ (blk_lt HP2.out)).trans HP2.out)
            have HQ5 := Lib.hid ((hb4.block _ (blk_lt HQ2.out)).trans HQ2.out)
            have HR5 := Lib.hid ((hb4.block _ (blk_lt HR2.out)).trans HR2.out)
            have HBK5 := Lib.hid (HBK2.out.below hb4)
            have HT5 : Hid (Turns S w w4) := Lib.hid (HT2.out.trans (S' := S) (Turns.of_below hb4) (fun _ _ z => z))
            clear hb4 c0 c1
            have c0 := blk_cell HP5.out 0
            have c1 := blk_cell HP5.out 1
            simp only [List.getElem?_toArray, List.getElem?_cons_zero, List.getElem?_cons_succ] at c0 c1
            go_wp2_with fail
            refine (HAB.out _).mono ?_
            rintro e w6 ⟨rfl, hb6⟩
            have HA6 := Lib.hid ((hb6.block _ (blk_lt HA5.out)).trans HA5.out)
            have HB6 := Lib.hid ((hb6.block _ (blk_lt HB5.out)).trans HB5.out)
            have HP6 := Lib.hid ((hb6.block _ (blk_lt HP5.out)).trans HP5.out)
            have HQ6 := Lib.hid ((hb6.block _ (blk_lt HQ5.out)).trans HQ5.out)
            have HR6 := Lib.hid ((hb6.block _ (blk_lt HR5.out)).trans HR5.out)
            have HBK6 := Lib.hid (HBK5.out.below hb6)
            have HT6 : Hid (Turns S w w6) := Lib.hid (HT5.out.trans (S' := S) (Turns.of_below hb6) (fun _ _ z => z))
            clear hb6 c0 c1
            obtain ⟨W7, hW7⟩ : ∃ W7, W7 = w6.setRow p #[.int .i64 ((d : Int) + 1), .int .i64 ((kd : Int) / 2)] := ⟨_, rfl⟩
            have HA7 : Hid (W7.heap[a16]? = some (.cells sd 36 (0, 0))) := Lib.hid (by rw [hW7]; exact (setRow_other _ _ _ _ (by have := HPQ2.out; omega)).trans HA6.out)
            have HB7 : Hid (W7.heap[a17]? = some (.cells yd 36 (0, 0))) := Lib.hid (by rw [hW7]; exact (setRow_other _ _ _ _ (by have := HPQ2.out; omega)).trans HB6.out)
            have HP7 : Hid (W7.heap[p]? = some (.cells #[.int .i64 ((d : Int) + 1), .int .i64 ((kd : Int) / 2)] 55 (0, 0))) := Lib.hid (by rw [hW7]; exact setRow_heap _ _ _ _ _ _ HP6.out)
            have HQ7 : Hid (W7.heap[q]? = some (.cells sd 36 (0, 0))) := Lib.hid (by rw [hW7]; exact (setRow_other _ _ _ _ (by have := HPQ.out; omega)).trans HQ6.out)
            have HR7 : Hid (W7.heap[w.heap.size + 1]? = some (.cells (zeros 32) 36 (0, 0))) := Lib.hid (by rw [hW7]; exact (setRow_other _ _ _ _ (by have := HPQ.out; omega)).trans HR6.out)
            have HBK7 : Hid (IsBook W7 b g S' Tx' sh') := Lib.hid (by rw [hW7]; exact bk_setRow HBK6.out HSN.out.2.1 _)
            have HT7 : Hid (Turns S w W7) := Lib.hid (by rw [hW7]; exact tS_setRow HT6.out (by have := HPQ.out; omega) _)
            have HPS := Lib.hid (psum_any b g (d + 1) (kd / 2) (upS k x ps d) (ps d) S' Tx' sh' W7 HBK7.out (by omega) (by omega) HSD.out HYD.out)
            rw [Int.natCast_add, Int.natCast_ediv, Int.natCast_one, show ((2 : Nat) : Int) = 2 from rfl] at HPS
            rw [← HSDD.out, ← HYDD.out] at HPS
            obtain ⟨da, hda⟩ : ∃ z, z = digA (txt 1 [putL 1 (d + 1), putL 4 (kd / 2), (upS k x ps d), (ps d)]) := ⟨_, rfl⟩
            have hda2 : da.size = 32 := by rw [hda]; unfold digA; rw [rowV_size]
            have HIA := Lib.hid (info_dig hda2)
            have HOA : Hid (da.all (·.oneCell') = true) := Lib.hid (by rw [hda]; exact one_dig _)
            have HZA : Hid (sd.size = da.size) := Lib.hid (by rw [hda2, ← HZS.out]; simp [zeros])
            have HDA := Lib.hid hda
            have hUP : da = dA (upS k x ps (d + 1)) := by
              rw [hda, upS, ← HKD.out]
              have e1 : k / 2 ^ (d + 1) = kd / 2 := by rw [HKD.out, Nat.pow_succ, Nat.div_div_eq_div_mul]
              rw [e1, if_neg hpar, if_neg hpar]
              rfl
            have HUP := Lib.hid hUP
            have HW7 := Lib.hid hW7
            have HKE : Hid (kd / 2 = k / 2 ^ (d + 1)) := Lib.hid (by rw [HKD.out, Nat.pow_succ, Nat.div_div_eq_div_mul])
            clear hW7 hda hda2 hUP
            have c0 := blk_cell HP7.out 0
            have c1 := blk_cell HP7.out 1
            simp only [List.getElem?_toArray, List.getElem?_cons_zero, List.getElem?_cons_succ] at c0 c1
            go_wp2_with (first
              | (with_reducible refine wpList_store_row rfl 55 (.tmp 12) (.tmp 54) rfl _ _ rfl rfl 55 _ HP6.out (info_pl2 _ _) (sz_pl _ _ _ _) (one_pl _ _) ?_; rw [← HW7.out])
              | (with_reducible refine wpList_load_row rfl 36 (.tmp 16) rfl _ rfl 36 _ _ _ HA7.out Tryz.underlying36 rfl HIS.out ?_)
              | (with_reducible refine wpList_load_row rfl 36 (.tmp 17) rfl _ rfl 36 _ _ _ HB7.out Tryz.underlying36 rfl HIY.out ?_))
            refine (HPS.out).mono ?_
            rintro e w8 ⟨he, ht8, hb8⟩
            rw [← HDA.out] at he
            subst he
            have HQ8 := Lib.hid (turnsU ht8 HSN.out.2.2 HQ7.out)
            have HT8 : Hid (Turns S w w8) := Lib.hid (HT7.out.trans (S' := S') ht8 (fun j hj hj' => (HSS.out j hj').elim id (fun c => by omega)))
            have HR8 := turnsU ht8 HSN.out.1 HR7.out
            have HP8 := turnsU ht8 HSN.out.2.1 HP7.out
            have hlp := blk_lt HP7.out
            have hlq := blk_lt HQ7.out
            have hlr := blk_lt HR7.out
            have hsz7 := HT7.out.size
            obtain ⟨W9, hW9⟩ : ∃ W9, W9 = w8.setRow q da := ⟨_, rfl⟩
            have H9 : Hid (UpInv w b g k p q S x ps m (.int .i64 ((d : Int) + 1)) W9) := Lib.hid (by
              rw [hW9]
              refine ⟨d + 1, rfl, hlt, (setRow_other _ _ _ _ (by have := HPQ.out; omega)).trans HR8, ?_, ?_, tS_setRow HT8.out (by have := HPQ.out; omega) _, _, _, _, bk_setRow hb8 (fun z => z.elim HSN.out.2.2 (fun c => by omega)) _, fun j hj => hj.elim (HSS.out j) (fun c => .inr (by omega)), fun z => z.elim HSN.out.1 (fun c => by omega), fun z => z.elim HSN.out.2.1 (fun c => by omega), fun z => z.elim HSN.out.2.2 (fun c => by omega)⟩
              · rw [← HKE.out, Int.natCast_add, Int.natCast_ediv]
                exact (setRow_other _ _ _ _ (by have := HPQ.out; omega)).trans HP8
              · rw [← HUP.out]
                exact setRow_heap _ _ _ _ _ _ HQ8.out)
            have HW9 := Lib.hid hW9
            clear ht8 hb8 HR8 HP8 hlp hlq hlr hsz7 hW9
            go_wp2_with (with_reducible refine wpList_store_row rfl 36 (.tmp 13) (.tmp 59) rfl _ _ rfl rfl 36 _ HQ8.out HIA.out HZA.out HOA.out ?_; rw [← HW9.out])
            go_roundw
            case rel => exact H9.out
            case measure => simp [intOf]; omega
      · obtain rfl : d = m := by omega
        have hsd := upS_dig (k := k) (ps := ps) HX.out d
        have hsz32 : (dA (upS k x ps d)).size = 32 := by rw [rowV_size]
        have HIS := Lib.hid (info_dig hsz32)
        have HRT2 := Lib.hid (troot_any b g n (upS k x ps d) S' Tx' sh' wr hb (by omega) hsd)
        obtain ⟨sd, hsdd⟩ : ∃ z, z = dA (upS k x ps d) := ⟨_, rfl⟩
        rw [← hsdd] at HIS HRT2 hq
        obtain ⟨da, hda⟩ : ∃ z, z = digA (txt 2 [putL 4 n, upS k x ps d]) := ⟨_, rfl⟩
        have hda2 : da.size = 32 := by rw [hda]; unfold digA; rw [rowV_size]
        have HIA := Lib.hid (info_dig hda2)
        have HOA : Hid (da.all (·.oneCell') = true) := Lib.hid (by rw [hda]; exact one_dig _)
        have HZR : Hid ((zeros 32).size = da.size) := Lib.hid (by rw [hda2]; simp [zeros])
        have HDA := Lib.hid hda
        have HQ := Lib.hid hq
        have HR := Lib.hid hr
        have HT := Lib.hid ht
        have HSS := Lib.hid hs'
        have HSR := Lib.hid hsr
        clear hsd hsz32 hsdd hda hda2 hq hr ht hs' hsr hp hb hsp hsq H0
        go_wp2_with (with_reducible refine wpList_load_row rfl 36 (.tmp 13) rfl _ rfl 36 _ _ _ HQ.out Tryz.underlying36 rfl HIS.out ?_)
        refine (HRT2.out).mono ?_
        rintro e w8 ⟨he, ht8, hb8⟩
        rw [← HDA.out] at he
        subst he
        have HR8 := Lib.hid (turnsU ht8 HSR.out HR.out)
        have HF := Lib.hid (setRow_heap _ _ _ da _ _ HR8.out)
        have HU : Hid (UpYes w b g S (txt 2 [putL 4 n, upS k x ps d]) (.returned (.tuple #[.agg da, .int .i64 0])) (w8.setRow (w.heap.size + 1) da)) := Lib.hid (by
          have := blk_lt HR.out
          have := HT.out.size
          refine ⟨by rw [HDA.out], tS_setRow (HT.out.trans (S' := S') ht8 (fun j hj hj' => (HSS.out j hj').elim id (fun c => by omega))) (by omega) _, _, _, _, bk_setRow hb8 (fun z => z.elim HSR.out (fun c => by omega)) _, fun j hj => hj.elim (HSS.out j) (fun c => .inr (by omega))⟩)
        clear ht8 hb8
        go_wp2_with (with_reducible refine wpList_store_row rfl 36 (.tmp 10) (.tmp 64) rfl _ _ rfl rfl 36 _ HR8.out HIA.out HZR.out HOA.out ?_)
        exact bodyPost_ret (v := .tuple #[.agg da, .int .i64 0]) (rts_row rfl _ _ _ 36 _ (0, 0) _ _ rfl rfl HF.out Tryz.underlying36 rfl HIA.out) rfl HU.out
  · go_simp
    refine hK.out _ _ (HK.out _ ((hHeld.2).alloc hHeld.2.size _)) (fun hHeld4 => ?_)
    clear hK K
    (try simp only [Act.put, List.getElem_toArray, List.getElem_cons_succ, List.getElem_cons_zero, List.setIfInBounds_toArray, List.set_cons_zero, List.set_cons_succ])
    refine wpAnyF_ready (rs := [3]) (by kernel_rfl) (by simp) ?_
    refine AllReadyF.cons (o := _) rfl (fun K hK => ?_) AllReadyF.nil
    go_simp
    refine hK.out _ _ (HK.out _ ((hHeld4.2).alloc hHeld4.2.size _)) (fun hHeld3 => ?_)
    clear hK K
    (try simp only [Act.put, List.getElem_toArray, List.getElem_cons_succ, List.getElem_cons_zero, List.setIfInBounds_toArray, List.set_cons_zero, List.set_cons_succ])
    have h2 := two_at W0 (.cells (zeros 32) 36) (.cells #[.int .i64 0, .int .i64 0] 55)
    have HV : Hid (((W0.alloc (.cells (zeros 32) 36)).alloc (.cells #[.int .i64 0, .int .i64 0] 55)).drew.heap[(W0.heap.size + 1)]? = some (.cells #[.int .i64 0, .int .i64 0] 55 (0, 0)) ∧ ((W0.alloc (.cells (zeros 32) 36)).alloc (.cells #[.int .i64 0, .int .i64 0] 55)).drew.heap[W0.heap.size]? = some (.cells (zeros 32) 36 (0, 0)) ∧ Below W0.heap.size W0 ((W0.alloc (.cells (zeros 32) 36)).alloc (.cells #[.int .i64 0, .int .i64 0] 55)).drew) := Lib.hid ⟨h2.2.1, h2.1, h2.2.2.1.drew⟩
    clear h2
    refine wpAnyF_ready (rs := [5]) (by kernel_rfl) (by simp) ?_
    refine AllReadyF.cons (o := _) rfl (fun K hK => ?_) AllReadyF.nil
    rw [if_pos (by kernel_rfl)]
    refine wp_store_row 55 (.tmp 12) (.tmp 39) rfl (W0.heap.size + 1) #[.int .i64 0, .int .i64 (k : Int)] rfl rfl _ _ HV.out.1 info_pl rfl (one_pl _ _) ?_
    refine hK.out _ _ (HK.out _ (below_setRow hHeld3.2 (by omega) _)) (fun hHeld5 => ?_)
    clear hK K
    (try simp only [Act.put, List.getElem_toArray, List.getElem_cons_succ, List.getElem_cons_zero, List.setIfInBounds_toArray, List.set_cons_zero, List.set_cons_succ])
    refine wpAnyF_ready (rs := [6]) (by kernel_rfl) (by simp) ?_
    refine AllReadyF.cons (o := _) rfl (fun K hK => ?_) AllReadyF.nil
    rw [if_pos (by kernel_rfl)]
    refine wp_store_row 36 (.tmp 13) (.tmp 40) rfl W0.heap.size xd rfl rfl _ (zeros 32) ((setRow_other _ _ _ _ (by omega)).trans HV.out.2.1) HIX.out HZX.out HOX.out ?_
    refine hK.out _ _ (HK.out _ (below_setRow hHeld5.2 (by omega) _)) (fun hHeld6 => ?_)
    clear hK K
    (try simp only [Act.put, List.getElem_toArray, List.getElem_cons_succ, List.getElem_cons_zero, List.setIfInBounds_toArray, List.set_cons_zero, List.set_cons_succ])
    refine wpAnyF_done (by kernel_rfl) ?_ _
    have h3 := two_set (P := #[.int .i64 0, .int .i64 (k : Int)]) (X := xd) HV.out.2.2 HV.out.1 HV.out.2.1 (by omega) (by omega) (by omega)
    generalize hW3 : ((((W0.alloc (.cells (zeros 32) 36)).alloc (.cells #[.int .i64 0, .int .i64 0] 55)).drew.setRow (W0.heap.size + 1) #[.int .i64 0, .int .i64 (k : Int)]).setRow W0.heap.size xd) = W3 at h3
    have HW3 := Lib.hid hW3
    have HPQ : Hid (w.heap.size + 2 ≤ (W0.heap.size + 1) ∧ w.heap.size + 2 ≤ W0.heap.size ∧ (W0.heap.size + 1) ≠ W0.heap.size) := Lib.hid (by have := HS0.out; omega)
    have hbw3 : Below w.heap.size w W3 := HB0.out.trans (h3.2.2.mono HB0.out.size)
    have H0 : Hid (UpInv w b g k (W0.heap.size + 1) W0.heap.size S x ps m (.int .i64 0) W3) := Lib.hid ⟨0, rfl, by omega, (h3.2.2.block _ (by have := HS0.out; omega)).trans HR0.out, by rw [Nat.pow_zero, Nat.div_one]; exact h3.1, by rw [upS, ← HXD.out]; exact h3.2.1, Turns.of_below hbw3, S, Tx, sh, HBK.out.below hbw3, fun j hj => .inl hj, fun hj => by have := HSUB.out _ hj; omega, fun hj => by have := HSUB.out _ hj; have := HPQ.out; omega, fun hj => by have := HSUB.out _ hj; have := HPQ.out; omega⟩

    clear hW3 hHeld hHeld3 hHeld4 hHeld5 hHeld6 h3 hbw3 HK HV HW3 HS0 HB0 HR0 HP8 HW0 HBK
    generalize hp : (W0.heap.size + 1) = p at *
    generalize hq : W0.heap.size = q at *
    clear hp hq
    go_wp2_with fail
    go_loopw [43] (fun i W => UpInv w b g k p q S x ps m i W) (fun i _ => (m - intOf i).toNat)
    case atStart => exact H0.out
    case round =>
      obtain ⟨d, rfl, hd, hr, hp, hq, ht, S', Tx', sh', hb, hs', hsr, hsp, hsq⟩ := hrel
      by_cases hlt : d < m
      · obtain ⟨bb, oo, rfl, hbb, hrg⟩ := HDS.out.1 (by omega)
        have HRG := Lib.hid (range_of (ht.block bb hbb (HOFF.out _ rfl)) (hrg d hlt))
        have hyd := HDS.out.2 d
        have hsd := upS_dig (k := k) (ps := ps) HX.out d
        have hy32 : (dA (ps d)).size = 32 := by rw [rowV_size]
        have hsz32 : (dA (upS k x ps d)).size = 32 := by rw [rowV_size]
        have HIY := Lib.hid (info_dig hy32)
        have HIYL : Hid ((Tryz.prog.info? 36).map (·.size) = some (dA (ps d)).toList.length) := Lib.hid (by rw [Array.length_toList]; exact info_dig hy32)
        have HIS := Lib.hid (info_dig hsz32)
        have HOY : Hid ((dA (ps d)).all (·.oneCell') = true) := Lib.hid (dA_one _)
        have HOS : Hid ((dA (upS k x ps d)).all (·.oneCell') = true) := Lib.hid (dA_one _)
        have HZY : Hid ((zeros 32).size = (dA (ps d)).size) := Lib.hid (by rw [hy32]; simp [zeros])
        have HZS : Hid ((zeros 32).size = (dA (upS k x ps d)).size) := Lib.hid (by rw [hsz32]; simp [zeros])
        have HYD := Lib.hid hyd
        have HSD := Lib.hid hsd
        obtain ⟨W1, hW1⟩ : ∃ W1, W1 = (wr.alloc (.cells (zeros 32) 36)).setRow wr.heap.size (dA (ps d)) := ⟨_, rfl⟩
        have hbw : Below wr.heap.size wr W1 := by rw [hW1]; exact below_setRow ((Below.refl _ _).alloc (Nat.le_refl _) _) (Nat.le_refl _) _
        have h15 := heap_alloc_new wr (.cells (zeros 32) 36)
        have HP15 : Hid (W1.heap[wr.heap.size]? = some (.cells (dA (ps d)) 36 (0, 0))) := Lib.hid (by rw [hW1]; exact setRow_heap _ _ _ _ _ _ h15)
        have HRR1 := Lib.hid ((hbw.block _ (blk_lt hr)).trans hr)
        have HPP1 := Lib.hid ((hbw.block _ (blk_lt hp)).trans hp)
        have HQQ1 := Lib.hid ((hbw.block _ (blk_lt hq)).trans hq)
        have HBK1 := Lib.hid (hb.below hbw)
        have HT1 : Hid (Turns S w W1) := Lib.hid (ht.trans (S' := S) (Turns.of_below hbw) (fun _ _ z => z))
        have H15 := Lib.hid h15
        have HW1 := Lib.hid hW1
        have HSS := Lib.hid hs'
        have HSN : Hid (¬ S' (w.heap.size + 1) ∧ ¬ S' p ∧ ¬ S' q) := Lib.hid ⟨hsr, hsp, hsq⟩
        obtain ⟨yd, hydd⟩ : ∃ z, z = dA (ps d) := ⟨_, rfl⟩
        obtain ⟨sd, hsdd⟩ : ∃ z, z = dA (upS k x ps d) := ⟨_, rfl⟩
        have hxa : yd.toList.toArray = yd := by simp
        rw [← hydd] at HRG HIY HIYL HOY HZY HP15 HW1
        rw [← hsdd] at HIS HOS HZS HQQ1
        have HYDD := Lib.hid hydd
        have HSDD := Lib.hid hsdd
        have hm10' : d ≤ 10 := by omega
        clear hr hp hq ht hb hs' hsr hsp hsq hrg hyd hsd hy32 hsz32 hW1 hbw h15 hydd hsdd H0
        go_upto_region 7 with (first
          | (with_reducible refine wpList_load_mid rfl 36 (.tmp 45) rfl bb (oo + d * 32) rfl yd.toList _ HRG.out Tryz.underlying36 rfl HIYL.out ?_)
          | (with_reducible refine wpList_store_row rfl 36 (.tmp 15) (.tmp 46) rfl _ _ rfl (by simp [Act.eval, Act.put]) 36 _ H15.out HIY.out HZY.out HOY.out ?_))
        rw [← HW1.out]
        generalize hp15 : wr.heap.size = p15 at *
        have HK7 : Hid (∀ W, Below W1.heap.size W1 W → W.heap[q]? = some (.cells sd 36 (0, 0)) ∧ W.heap[p15]? = some (.cells yd 36 (0, 0)) ∧ Below W1.heap.size W1 W) := Lib.hid (fun W hW => ⟨(hW.block _ (blk_lt HQQ1.out)).trans HQQ1.out, (hW.block _ (blk_lt HP15.out)).trans HP15.out, hW⟩)
        refine wp_region_F (S := (fun W : World => W.heap[q]? = some (.cells sd 36 (0, 0)) ∧ W.heap[p15]? = some (.cells yd 36 (0, 0)) ∧ Below W1.heap.size W1 W)) [] (by kernel_rfl) (HK7.out _ ((Below.refl _ _).drew)) (fun hHeld => ?_)
        refine wpAnyF_take (i := 0) (oi := _) (v := _) rfl (by kernel_rfl) (by kernel_rfl) (by kernel_rfl) (by kernel_rfl) (fun _ _ _ h => h) (yields_rowU (by rfl) 36 (.tmp 13) rfl q 0 rfl sd _ (fun W h => range_cells h.1) Tryz.underlying36 rfl HIS.out) (by assumption) ?_
        (try simp only [Act.put, List.getElem_toArray, List.getElem_cons_succ, List.getElem_cons_zero, List.setIfInBounds_toArray, List.set_cons_zero, List.set_cons_succ])
        refine wpAnyF_take (i := 1) (oi := _) (v := _) rfl (by kernel_rfl) (by kernel_rfl) (by kernel_rfl) (by kernel_rfl) (fun _ _ _ h => h) (yields_rowU (by rfl) 36 (.tmp 15) rfl p15 0 rfl yd _ (fun W h => range_cells h.2.1) Tryz.underlying36 rfl HIY.out) (by assumption) ?_
        (try simp only [Act.put, List.getElem_toArray, List.getElem_cons_succ, List.getElem_cons_zero, List.setIfInBounds_toArray, List.set_cons_zero, List.set_cons_succ])
        refine wpAnyF_ready (rs := [2, 3]) (by kernel_rfl) (by simp) ?_
        refine AllReadyF.cons (o := _) rfl (fun K hK => ?_) (AllReadyF.cons (o := _) rfl (fun K hK => ?_) AllReadyF.nil)
        · go_simp
          refine hK.out _ _ (HK7.out _ ((hHeld.2.2).alloc hHeld.2.2.size _)) (fun hHeld2 => ?_)
          clear hK K
          (try simp only [Act.put, List.getElem_toArray, List.getElem_cons_succ, List.getElem_cons_zero, List.setIfInBounds_toArray, List.set_cons_zero, List.set_cons_succ])
          refine wpAnyF_ready (rs := [3]) (by kernel_rfl) (by simp) ?_
          refine AllReadyF.cons (o := _) rfl (fun K hK => ?_) AllReadyF.nil
          go_simp
          refine hK.out _ _ (HK7.out _ ((hHeld2.2.2).alloc hHeld2.2.2.size _)) (fun hHeld3 => ?_)
          clear hK K
          (try simp only [Act.put, List.getElem_toArray, List.getElem_cons_succ, List.getElem_cons_zero, List.setIfInBounds_toArray, List.set_cons_zero, List.set_cons_succ])
          have h2 := two_at W1 (.cells (zeros 32) 36) (.cells (zeros 32) 36)
          have HV : Hid (((W1.alloc (.cells (zeros 32) 36)).alloc (.cells (zeros 32) 36)).drew.heap[W1.heap.size]? = some (.cells (zeros 32) 36 (0, 0)) ∧ ((W1.alloc (.cells (zeros 32) 36)).alloc (.cells (zeros 32) 36)).drew.heap[(W1.heap.size + 1)]? = some (.cells (zeros 32) 36 (0, 0)) ∧ Below W1.heap.size W1 ((W1.alloc (.cells (zeros 32) 36)).alloc (.cells (zeros 32) 36)).drew) := Lib.hid ⟨h2.1, h2.2.1, h2.2.2.1.drew⟩
          clear h2
          refine wpAnyF_ready (rs := [4]) (by kernel_rfl) (by simp) ?_
          refine AllReadyF.cons (o := _) rfl (fun K hK => ?_) AllReadyF.nil
          rw [if_pos (by kernel_rfl)]
          refine wp_store_row 36 (.tmp 16) (.tmp 47) rfl W1.heap.size sd rfl rfl _ (zeros 32) HV.out.1 HIS.out HZS.out HOS.out ?_
          refine hK.out _ _ (HK7.out _ (below_setRow hHeld3.2.2 (by omega) _)) (fun hHeld4 => ?_)
          clear hK K
          (try simp only [Act.put, List.getElem_toArray, List.getElem_cons_succ, List.getElem_cons_zero, List.setIfInBounds_toArray, List.set_cons_zero, List.set_cons_succ])
          refine wpAnyF_ready (rs := [5]) (by kernel_rfl) (by simp) ?_
          refine AllReadyF.cons (o := _) rfl (fun K hK => ?_) AllReadyF.nil
          rw [if_pos (by kernel_rfl)]
          refine wp_store_row 36 (.tmp 17) (.tmp 48) rfl (W1.heap.size + 1) yd rfl rfl _ (zeros 32) ((setRow_other _ _ _ _ (by omega)).trans HV.out.2.1) HIY.out HZY.out HOY.out ?_
          refine hK.out _ _ (HK7.out _ (below_setRow hHeld4.2.2 (by omega) _)) (fun hHeld5 => ?_)
          clear hK K
          (try simp only [Act.put, List.getElem_toArray, List.getElem_cons_succ, List.getElem_cons_zero, List.setIfInBounds_toArray, List.set_cons_zero, List.set_cons_succ])
          refine wpAnyF_done (by kernel_rfl) ?_ _
          have h3 := two_set (P := sd) (X := yd) HV.out.2.2 HV.out.1 HV.out.2.1 (by omega) (by omega) (by omega)
          generalize hW2 : ((((W1.alloc (.cells (zeros 32) 36)).alloc (.cells (zeros 32) 36)).drew.setRow W1.heap.size sd).setRow (W1.heap.size + 1) yd) = W2 at h3
          have HR2 := Lib.hid ((h3.2.2.block _ (blk_lt HRR1.out)).trans HRR1.out)
          have HP2 := Lib.hid ((h3.2.2.block _ (blk_lt HPP1.out)).trans HPP1.out)
          have HQ2 := Lib.hid ((h3.2.2.block _ (blk_lt HQQ1.out)).trans HQQ1.out)
          have HBK2 := Lib.hid (HBK1.out.below h3.2.2)
          have HT2 : Hid (Turns S w W2) := Lib.hid (HT1.out.trans (S' := S) (Turns.of_below h3.2.2) (fun _ _ z => z))
          have HA2 := Lib.hid h3.1
          have HB2 := Lib.hid h3.2.1
          have HPQ2 : Hid (p < W1.heap.size ∧ q < W1.heap.size ∧ p < (W1.heap.size + 1) ∧ q < (W1.heap.size + 1) ∧ w.heap.size + 1 < W1.heap.size ∧ w.heap.size + 1 < (W1.heap.size + 1) ∧ W1.heap.size ≠ (W1.heap.size + 1)) := Lib.hid (by have := blk_lt HPP1.out; have := blk_lt HQQ1.out; have := blk_lt HRR1.out; omega)
          have HNP : Hid (¬ S' W1.heap.size ∧ ¬ S' (W1.heap.size + 1)) := Lib.hid ⟨fun z => by have := HBK1.out.sub z; omega, fun z => by have := HBK1.out.sub z; omega⟩
          have HLW : Hid (w.heap.size ≤ W1.heap.size ∧ w.heap.size ≤ (W1.heap.size + 1)) := Lib.hid (by have := HT1.out.size; omega)
          clear hW2 hHeld hHeld2 hHeld3 hHeld4 hHeld5 h3 HK7 HV HP15 HRR1 HPP1 HQQ1 HBK1 HT1
          generalize hq7 : (W1.heap.size + 1) = a17 at *
          generalize hp7 : W1.heap.size = a16 at *
          clear hp7 hq7
          obtain ⟨kd, hkd⟩ : ∃ kd, kd = k / 2 ^ d := ⟨_, rfl⟩
          have hkdb : kd ≤ 1024 := by rw [hkd]; exact Nat.le_trans (Nat.div_le_self _ _) (by omega)
          have HKD := Lib.hid hkd
          rw [← hkd] at HP2
          have c0 := blk_cell HP2.out 0
          have c1 := blk_cell HP2.out 1
          simp only [List.getElem?_toArray, List.getElem?_cons_zero, List.getElem?_cons_succ] at c0 c1
          have HRT := Lib.hid (fun W => right_any d kd (by omega) W)
          have HAB := Lib.hid (fun W => above_any d kd (by omega) (by omega) W)
          clear hkd hxa
          by_cases hpar : kd % 2 = 1
          · have hpb : (kd % 2 == 1) = true := by rw [beq_iff_eq]; exact hpar
            rw [hpb] at HRT
            go_wp2_with fail
            refine (HRT.out _).mono ?_
            rintro e w4 ⟨rfl, hb4⟩
            have HA4 := Lib.hid ((hb4.block _ (blk_lt HA2.out)).trans HA2.out)
            have HB4 := Lib.hid ((hb4.block _ (blk_lt HB2.out)).trans HB2.out)
            have HBK4 := Lib.hid (HBK2.out.below hb4)
            have HT4 : Hid (Turns S w w4) := Lib.hid (HT2.out.trans (S' := S) (Turns.of_below hb4) (fun _ _ z => z))
            obtain ⟨W5, hW5⟩ : ∃ W5, W5 = (w4.setRow a16 yd).setRow a17 sd := ⟨_, rfl⟩
            have h5 : ∀ j, j ≠ a16 → j ≠ a17 → W5.heap[j]? = w4.heap[j]? := fun j h1 h2 => by rw [hW5]; exact (setRow_other _ _ _ _ h2).trans (setRow_other _ _ _ _ h1)
            have HA5 : Hid (W5.heap[a16]? = some (.cells yd 36 (0, 0))) := Lib.hid (by rw [hW5]; exact (setRow_other _ _ _ _ (by have := HPQ2.out; omega)).trans (setRow_heap _ _ _ _ _ _ HA4.out))
            have HB5 : Hid (W5.heap[a17]? = some (.cells sd 36 (0, 0))) := Lib.hid (by rw [hW5]; exact setRow_heap _ _ _ _ _ _ ((setRow_other _ _ _ _ (by have := HPQ2.out; omega)).trans HB4.out))
            have HP5 := Lib.hid ((h5 p (by have := HPQ2.out; omega) (by have := HPQ2.out; omega)).trans ((hb4.block _ (blk_lt HP2.out)).trans HP2.out))
            have HQ5 := Lib.hid ((h5 q (by have := HPQ2.out; omega) (by have := HPQ2.out; omega)).trans ((hb4.block _ (blk_lt HQ2.out)).trans HQ2.out))
            have HR5 := Lib.hid ((h5 (w.heap.size + 1) (by have := HPQ2.out; omega) (by have := HPQ2.out; omega)).trans ((hb4.block _ (blk_lt HR2.out)).trans HR2.out))
            have HBK5 : Hid (IsBook W5 b g S' Tx' sh') := Lib.hid (by rw [hW5]; exact bk_setRow (bk_setRow HBK4.out HNP.out.1 _) HNP.out.2 _)
            have HT5 : Hid (Turns S w W5) := Lib.hid (by rw [hW5]; exact tS_setRow (tS_setRow HT4.out HLW.out.1 _) HLW.out.2 _)
            have HSY : Hid (sd.size = yd.size) := Lib.hid (HZS.out.symm.trans HZY.out)
            have HYS : Hid (yd.size = sd.size) := Lib.hid HSY.out.symm
            have HBX : Hid ((w4.setRow a16 yd).heap[a17]? = some (.cells yd 36 (0, 0))) := Lib.hid ((setRow_other _ _ _ _ (by have := HPQ2.out; omega)).trans HB4.out)
            have HW5 := Lib.hid hW5
            clear hW5 h5 hb4 c0 c1
            have c0 := blk_cell HP5.out 0
            have c1 := blk_cell HP5.out 1
            simp only [List.getElem?_toArray, List.getElem?_cons_zero, List.getElem?_cons_succ] at c0 c1
            go_wp2_with (first
              | (with_reducible refine wpList_load_row rfl 36 (.tmp 17) rfl _ rfl 36 _ _ _ HB4.out Tryz.underlying36 rfl HIY.out ?_)
              | (with_reducible refine wpList_load_row rfl 36 (.tmp 16) rfl _ rfl 36 _ _ _ HA4.out Tryz.underlying36 rfl HIS.out ?_)
              | (with_reducible refine wpList_store_row rfl 36 (.tmp 16) (.tmp 51) rfl _ _ rfl rfl 36 _ HA4.out HIY.out HSY.out HOY.out ?_)
              | (with_reducible refine wpList_store_row rfl 36 (.tmp 17) (.tmp 52) rfl _ _ rfl rfl 36 _ HBX.out HIS.out HYS.out HOS.out ?_; rw [← HW5.out]))
            refine (HAB.out _).mono ?_
            rintro e w6 ⟨rfl, hb6⟩
            have HA6 := Lib.hid ((hb6.block _ (blk_lt HA5.out)).trans HA5.out)
            have HB6 := Lib.hid ((hb6.block _ (blk_lt HB5.out)).trans HB5.out)
            have HP6 := Lib.hid ((hb6.block _ (blk_lt HP5.out)).trans HP5.out)
            have HQ6 := Lib.hid ((hb6.block _ (blk_lt HQ5.out)).trans HQ5.out)
            have HR6 := Lib.hid ((hb6.block _ (blk_lt HR5.out)).trans HR5.out)
            have HBK6 := Lib.hid (HBK5.out.below hb6)
            have HT6 : Hid (Turns S w w6) := Lib.hid (HT5.out.trans (S' := S) (Turns.of_below hb6) (fun _ _ z => z))
            clear hb6 c0 c1
            obtain ⟨W7, hW7⟩ : ∃ W7, W7 = w6.setRow p #[.int .i64 ((d : Int) + 1), .int .i64 ((kd : Int) / 2)] := ⟨_, rfl⟩
            have HA7 : Hid (W7.heap[a16]? = some (.cells yd 36 (0, 0))) := Lib.hid (by rw [hW7]; exact (setRow_other _ _ _ _ (by have := HPQ2.out; omega)).trans HA6.out)
            have HB7 : Hid (W7.heap[a17]? = some (.cells sd 36 (0, 0))) := Lib.hid (by rw [hW7]; exact (setRow_other _ _ _ _ (by have := HPQ2.out; omega)).trans HB6.out)
            have HP7 : Hid (W7.heap[p]? = some (.cells #[.int .i64 ((d : Int) + 1), .int .i64 ((kd : Int) / 2)] 55 (0, 0))) := Lib.hid (by rw [hW7]; exact setRow_heap _ _ _ _ _ _ HP6.out)
            have HQ7 : Hid (W7.heap[q]? = some (.cells sd 36 (0, 0))) := Lib.hid (by rw [hW7]; exact (setRow_other _ _ _ _ (by have := HPQ.out; omega)).trans HQ6.out)
            have HR7 : Hid (W7.heap[w.heap.size + 1]? = some (.cells (zeros 32) 36 (0, 0))) := Lib.hid (by rw [hW7]; exact (setRow_other _ _ _ _ (by have := HPQ.out; omega)).trans HR6.out)
            have HBK7 : Hid (IsBook W7 b g S' Tx' sh') := Lib.hid (by rw [hW7]; exact bk_setRow HBK6.out HSN.out.2.1 _)
            have HT7 : Hid (Turns S w W7) := Lib.hid (by rw [hW7]; exact tS_setRow HT6.out (by have := HPQ.out; omega) _)
            have HPS := Lib.hid (psum_any b g (d + 1) (kd / 2) (ps d) (upS k x ps d) S' Tx' sh' W7 HBK7.out (by omega) (by omega) HYD.out HSD.out)
            rw [Int.natCast_add, Int.natCast_ediv, Int.natCast_one, show ((2 : Nat) : Int) = 2 from rfl] at HPS
            rw [← HYDD.out, ← HSDD.out] at HPS
            obtain ⟨da, hda⟩ : ∃ z, z = digA (txt 1 [putL 1 (d + 1), putL 4 (kd / 2), (ps d), (upS k x ps d)]) := ⟨_, rfl⟩
            have hda2 : da.size = 32 := by rw [hda]; unfold digA; rw [rowV_size]
            have HIA := Lib.hid (info_dig hda2)
            have HOA : Hid (da.all (·.oneCell') = true) := Lib.hid (by rw [hda]; exact one_dig _)
            have HZA : Hid (sd.size = da.size) := Lib.hid (by rw [hda2, ← HZS.out]; simp [zeros])
            have HDA := Lib.hid hda
            have hUP : da = dA (upS k x ps (d + 1)) := by
              rw [hda, upS, ← HKD.out]
              have e1 : k / 2 ^ (d + 1) = kd / 2 := by rw [HKD.out, Nat.pow_succ, Nat.div_div_eq_div_mul]
              rw [e1, if_pos hpar, if_pos hpar]
              rfl
            have HUP := Lib.hid hUP
            have HW7 := Lib.hid hW7
            have HKE : Hid (kd / 2 = k / 2 ^ (d + 1)) := Lib.hid (by rw [HKD.out, Nat.pow_succ, Nat.div_div_eq_div_mul])
            clear hW7 hda hda2 hUP
            have c0 := blk_cell HP7.out 0
            have c1 := blk_cell HP7.out 1
            simp only [List.getElem?_toArray, List.getElem?_cons_zero, List.getElem?_cons_succ] at c0 c1
            go_wp2_with (first
              | (with_reducible refine wpList_store_row rfl 55 (.tmp 12) (.tmp 54) rfl _ _ rfl rfl 55 _ HP6.out (info_pl2 _ _) (sz_pl _ _ _ _) (one_pl _ _) ?_; rw [← HW7.out])
              | (with_reducible refine wpList_load_row rfl 36 (.tmp 16) rfl _ rfl 36 _ _ _ HA7.out Tryz.underlying36 rfl HIY.out ?_)
              | (with_reducible refine wpList_load_row rfl 36 (.tmp 17) rfl _ rfl 36 _ _ _ HB7.out Tryz.underlying36 rfl HIS.out ?_))
            refine (HPS.out).mono ?_
            rintro e w8 ⟨he, ht8, hb8⟩
            rw [← HDA.out] at he
            subst he
            have HQ8 := Lib.hid (turnsU ht8 HSN.out.2.2 HQ7.out)
            have HT8 : Hid (Turns S w w8) := Lib.hid (HT7.out.trans (S' := S') ht8 (fun j hj hj' => (HSS.out j hj').elim id (fun c => by omega)))
            have HR8 := turnsU ht8 HSN.out.1 HR7.out
            have HP8 := turnsU ht8 HSN.out.2.1 HP7.out
            have hlp := blk_lt HP7.out
            have hlq := blk_lt HQ7.out
            have hlr := blk_lt HR7.out
            have hsz7 := HT7.out.size
            obtain ⟨W9, hW9⟩ : ∃ W9, W9 = w8.setRow q da := ⟨_, rfl⟩
            have H9 : Hid (UpInv w b g k p q S x ps m (.int .i64 ((d : Int) + 1)) W9) := Lib.hid (by
              rw [hW9]
              refine ⟨d + 1, rfl, hlt, (setRow_other _ _ _ _ (by have := HPQ.out; omega)).trans HR8, ?_, ?_, tS_setRow HT8.out (by have := HPQ.out; omega) _, _, _, _, bk_setRow hb8 (fun z => z.elim HSN.out.2.2 (fun c => by omega)) _, fun j hj => hj.elim (HSS.out j) (fun c => .inr (by omega)), fun z => z.elim HSN.out.1 (fun c => by omega), fun z => z.elim HSN.out.2.1 (fun c => by omega), fun z => z.elim HSN.out.2.2 (fun c => by omega)⟩
              · rw [← HKE.out, Int.natCast_add, Int.natCast_ediv]
                exact (setRow_other _ _ _ _ (by have := HPQ.out; omega)).trans HP8
              · rw [← HUP.out]
                exact setRow_heap _ _ _ _ _ _ HQ8.out)
            have HW9 := Lib.hid hW9
            clear ht8 hb8 HR8 HP8 hlp hlq hlr hsz7 hW9
            go_wp2_with (with_reducible refine wpList_store_row rfl 36 (.tmp 13) (.tmp 59) rfl _ _ rfl rfl 36 _ HQ8.out HIA.out HZA.out HOA.out ?_; rw [← HW9.out])
            go_roundw
            case rel => exact H9.out
            case measure => simp [intOf]; omega
          · have hpb : (kd % 2 == 1) = false := by rw [beq_eq_false_iff_ne]; exact hpar
            rw [hpb] at HRT
            go_wp2_with fail
            refine (HRT.out _).mono ?_
            rintro e w4 ⟨rfl, hb4⟩
            have HA5 := Lib.hid ((hb4.block _ (blk_lt HA2.out)).trans HA2.out)
            have HB5 := Lib.hid ((hb4.block _ (blk_lt HB2.out)).trans HB2.out)
            have HP5 := Lib.hid ((hb4.block _ (blk_lt HP2.out)).trans HP2.out)
            have HQ5 := Lib.hid ((hb4.block _ (blk_lt HQ2.out)).trans HQ2.out)
            have HR5 := Lib.hid ((hb4.block _ (blk_lt HR2.out)).trans HR2.out)
            have HBK5 := Lib.hid (HBK2.out.below hb4)
            have HT5 : Hid (Turns S w w4) := Lib.hid (HT2.out.trans (S' := S) (Turns.of_below hb4) (fun _ _ z => z))
            clear hb4 c0 c1
            have c0 := blk_cell HP5.out 0
            have c1 := blk_cell HP5.out 1
            simp only [List.getElem?_toArray, List.getElem?_cons_zero, List.getElem?_cons_succ] at c0 c1
            go_wp2_with fail
            refine (HAB.out _).mono ?_
            rintro e w6 ⟨rfl, hb6⟩
            have HA6 := Lib.hid ((hb6.block _ (blk_lt HA5.out)).trans HA5.out)
            have HB6 := Lib.hid ((hb6.block _ (blk_lt HB5.out)).trans HB5.out)
            have HP6 := Lib.hid ((hb6.block _ (blk_lt HP5.out)).trans HP5.out)
            have HQ6 := Lib.hid ((hb6.block _ (blk_lt HQ5.out)).trans HQ5.out)
            have HR6 := Lib.hid ((hb6.block _ (blk_lt HR5.out)).trans HR5.out)
            have HBK6 := Lib.hid (HBK5.out.below hb6)
            have HT6 : Hid (Turns S w w6) := Lib.hid (HT5.out.trans (S' := S) (Turns.of_below hb6) (fun _ _ z => z))
            clear hb6 c0 c1
            obtain ⟨W7, hW7⟩ : ∃ W7, W7 = w6.setRow p #[.int .i64 ((d : Int) + 1), .int .i64 ((kd : Int) / 2)] := ⟨_, rfl⟩
            have HA7 : Hid (W7.heap[a16]? = some (.cells sd 36 (0, 0))) := Lib.hid (by rw [hW7]; exact (setRow_other _ _ _ _ (by have := HPQ2.out; omega)).trans HA6.out)
            have HB7 : Hid (W7.heap[a17]? = some (.cells yd 36 (0, 0))) := Lib.hid (by rw [hW7]; exact (setRow_other _ _ _ _ (by have := HPQ2.out; omega)).trans HB6.out)
            have HP7 : Hid (W7.heap[p]? = some (.cells #[.int .i64 ((d : Int) + 1), .int .i64 ((kd : Int) / 2)] 55 (0, 0))) := Lib.hid (by rw [hW7]; exact setRow_heap _ _ _ _ _ _ HP6.out)
            have HQ7 : Hid (W7.heap[q]? = some (.cells sd 36 (0, 0))) := Lib.hid (by rw [hW7]; exact (setRow_other _ _ _ _ (by have := HPQ.out; omega)).trans HQ6.out)
            have HR7 : Hid (W7.heap[w.heap.size + 1]? = some (.cells (zeros 32) 36 (0, 0))) := Lib.hid (by rw [hW7]; exact (setRow_other _ _ _ _ (by have := HPQ.out; omega)).trans HR6.out)
            have HBK7 : Hid (IsBook W7 b g S' Tx' sh') := Lib.hid (by rw [hW7]; exact bk_setRow HBK6.out HSN.out.2.1 _)
            have HT7 : Hid (Turns S w W7) := Lib.hid (by rw [hW7]; exact tS_setRow HT6.out (by have := HPQ.out; omega) _)
            have HPS := Lib.hid (psum_any b g (d + 1) (kd / 2) (upS k x ps d) (ps d) S' Tx' sh' W7 HBK7.out (by omega) (by omega) HSD.out HYD.out)
            rw [Int.natCast_add, Int.natCast_ediv, Int.natCast_one, show ((2 : Nat) : Int) = 2 from rfl] at HPS
            rw [← HSDD.out, ← HYDD.out] at HPS
            obtain ⟨da, hda⟩ : ∃ z, z = digA (txt 1 [putL 1 (d + 1), putL 4 (kd / 2), (upS k x ps d), (ps d)]) := ⟨_, rfl⟩
            have hda2 : da.size = 32 := by rw [hda]; unfold digA; rw [rowV_size]
            have HIA := Lib.hid (info_dig hda2)
            have HOA : Hid (da.all (·.oneCell') = true) := Lib.hid (by rw [hda]; exact one_dig _)
            have HZA : Hid (sd.size = da.size) := Lib.hid (by rw [hda2, ← HZS.out]; simp [zeros])
            have HDA := Lib.hid hda
            have hUP : da = dA (upS k x ps (d + 1)) := by
              rw [hda, upS, ← HKD.out]
              have e1 : k / 2 ^ (d + 1) = kd / 2 := by rw [HKD.out, Nat.pow_succ, Nat.div_div_eq_div_mul]
              rw [e1, if_neg hpar, if_neg hpar]
              rfl
            have HUP := Lib.hid hUP
            have HW7 := Lib.hid hW7
            have HKE : Hid (kd / 2 = k / 2 ^ (d + 1)) := Lib.hid (by rw [HKD.out, Nat.pow_succ, Nat.div_div_eq_div_mul])
            clear hW7 hda hda2 hUP
            have c0 := blk_cell HP7.out 0
            have c1 := blk_cell HP7.out 1
            simp only [List.getElem?_toArray, List.getElem?_cons_zero, List.getElem?_cons_succ] at c0 c1
            go_wp2_with (first
              | (with_reducible refine wpList_store_row rfl 55 (.tmp 12) (.tmp 54) rfl _ _ rfl rfl 55 _ HP6.out (info_pl2 _ _) (sz_pl _ _ _ _) (one_pl _ _) ?_; rw [← HW7.out])
              | (with_reducible refine wpList_load_row rfl 36 (.tmp 16) rfl _ rfl 36 _ _ _ HA7.out Tryz.underlying36 rfl HIS.out ?_)
              | (with_reducible refine wpList_load_row rfl 36 (.tmp 17) rfl _ rfl 36 _ _ _ HB7.out Tryz.underlying36 rfl HIY.out ?_))
            refine (HPS.out).mono ?_
            rintro e w8 ⟨he, ht8, hb8⟩
            rw [← HDA.out] at he
            subst he
            have HQ8 := Lib.hid (turnsU ht8 HSN.out.2.2 HQ7.out)
            have HT8 : Hid (Turns S w w8) := Lib.hid (HT7.out.trans (S' := S') ht8 (fun j hj hj' => (HSS.out j hj').elim id (fun c => by omega)))
            have HR8 := turnsU ht8 HSN.out.1 HR7.out
            have HP8 := turnsU ht8 HSN.out.2.1 HP7.out
            have hlp := blk_lt HP7.out
            have hlq := blk_lt HQ7.out
            have hlr := blk_lt HR7.out
            have hsz7 := HT7.out.size
            obtain ⟨W9, hW9⟩ : ∃ W9, W9 = w8.setRow q da := ⟨_, rfl⟩
            have H9 : Hid (UpInv w b g k p q S x ps m (.int .i64 ((d : Int) + 1)) W9) := Lib.hid (by
              rw [hW9]
              refine ⟨d + 1, rfl, hlt, (setRow_other _ _ _ _ (by have := HPQ.out; omega)).trans HR8, ?_, ?_, tS_setRow HT8.out (by have := HPQ.out; omega) _, _, _, _, bk_setRow hb8 (fun z => z.elim HSN.out.2.2 (fun c => by omega)) _, fun j hj => hj.elim (HSS.out j) (fun c => .inr (by omega)), fun z => z.elim HSN.out.1 (fun c => by omega), fun z => z.elim HSN.out.2.1 (fun c => by omega), fun z => z.elim HSN.out.2.2 (fun c => by omega)⟩
              · rw [← HKE.out, Int.natCast_add, Int.natCast_ediv]
                exact (setRow_other _ _ _ _ (by have := HPQ.out; omega)).trans HP8
              · rw [← HUP.out]
                exact setRow_heap _ _ _ _ _ _ HQ8.out)
            have HW9 := Lib.hid hW9
            clear ht8 hb8 HR8 HP8 hlp hlq hlr hsz7 hW9
            go_wp2_with (with_reducible refine wpList_store_row rfl 36 (.tmp 13) (.tmp 59) rfl _ _ rfl rfl 36 _ HQ8.out HIA.out HZA.out HOA.out ?_; rw [← HW9.out])
            go_roundw
            case rel => exact H9.out
            case measure => simp [intOf]; omega
        · go_simp
          refine hK.out _ _ (HK7.out _ ((hHeld.2.2).alloc hHeld.2.2.size _)) (fun hHeld3 => ?_)
          clear hK K
          (try simp only [Act.put, List.getElem_toArray, List.getElem_cons_succ, List.getElem_cons_zero, List.setIfInBounds_toArray, List.set_cons_zero, List.set_cons_succ])
          refine wpAnyF_ready (rs := [2]) (by kernel_rfl) (by simp) ?_
          refine AllReadyF.cons (o := _) rfl (fun K hK => ?_) AllReadyF.nil
          go_simp
          refine hK.out _ _ (HK7.out _ ((hHeld3.2.2).alloc hHeld3.2.2.size _)) (fun hHeld2 => ?_)
          clear hK K
          (try simp only [Act.put, List.getElem_toArray, List.getElem_cons_succ, List.getElem_cons_zero, List.setIfInBounds_toArray, List.set_cons_zero, List.set_cons_succ])
          have h2 := two_at W1 (.cells (zeros 32) 36) (.cells (zeros 32) 36)
          have HV : Hid (((W1.alloc (.cells (zeros 32) 36)).alloc (.cells (zeros 32) 36)).drew.heap[(W1.heap.size + 1)]? = some (.cells (zeros 32) 36 (0, 0)) ∧ ((W1.alloc (.cells (zeros 32) 36)).alloc (.cells (zeros 32) 36)).drew.heap[W1.heap.size]? = some (.cells (zeros 32) 36 (0, 0)) ∧ Below W1.heap.size W1 ((W1.alloc (.cells (zeros 32) 36)).alloc (.cells (zeros 32) 36)).drew) := Lib.hid ⟨h2.2.1, h2.1, h2.2.2.1.drew⟩
          clear h2
          refine wpAnyF_ready (rs := [4]) (by kernel_rfl) (by simp) ?_
          refine AllReadyF.cons (o := _) rfl (fun K hK => ?_) AllReadyF.nil
          rw [if_pos (by kernel_rfl)]
          refine wp_store_row 36 (.tmp 16) (.tmp 47) rfl (W1.heap.size + 1) sd rfl rfl _ (zeros 32) HV.out.1 HIS.out HZS.out HOS.out ?_
          refine hK.out _ _ (HK7.out _ (below_setRow hHeld2.2.2 (by omega) _)) (fun hHeld4 => ?_)
          clear hK K
          (try simp only [Act.put, List.getElem_toArray, List.getElem_cons_succ, List.getElem_cons_zero, List.setIfInBounds_toArray, List.set_cons_zero, List.set_cons_succ])
          refine wpAnyF_ready (rs := [5]) (by kernel_rfl) (by simp) ?_
          refine AllReadyF.cons (o := _) rfl (fun K hK => ?_) AllReadyF.nil
          rw [if_pos (by kernel_rfl)]
          refine wp_store_row 36 (.tmp 17) (.tmp 48) rfl W1.heap.size yd rfl rfl _ (zeros 32) ((setRow_other _ _ _ _ (by omega)).trans HV.out.2.1) HIY.out HZY.out HOY.out ?_
          refine hK.out _ _ (HK7.out _ (below_setRow hHeld4.2.2 (by omega) _)) (fun hHeld5 => ?_)
          clear hK K
          (try simp only [Act.put, List.getElem_toArray, List.getElem_cons_succ, List.getElem_cons_zero, List.setIfInBounds_toArray, List.set_cons_zero, List.set_cons_succ])
          refine wpAnyF_done (by kernel_rfl) ?_ _
          have h3 := two_set (P := sd) (X := yd) HV.out.2.2 HV.out.1 HV.out.2.1 (by omega) (by omega) (by omega)
          generalize hW2 : ((((W1.alloc (.cells (zeros 32) 36)).alloc (.cells (zeros 32) 36)).drew.setRow (W1.heap.size + 1) sd).setRow W1.heap.size yd) = W2 at h3
          have HR2 := Lib.hid ((h3.2.2.block _ (blk_lt HRR1.out)).trans HRR1.out)
          have HP2 := Lib.hid ((h3.2.2.block _ (blk_lt HPP1.out)).trans HPP1.out)
          have HQ2 := Lib.hid ((h3.2.2.block _ (blk_lt HQQ1.out)).trans HQQ1.out)
          have HBK2 := Lib.hid (HBK1.out.below h3.2.2)
          have HT2 : Hid (Turns S w W2) := Lib.hid (HT1.out.trans (S' := S) (Turns.of_below h3.2.2) (fun _ _ z => z))
          have HA2 := Lib.hid h3.1
          have HB2 := Lib.hid h3.2.1
          have HPQ2 : Hid (p < (W1.heap.size + 1) ∧ q < (W1.heap.size + 1) ∧ p < W1.heap.size ∧ q < W1.heap.size ∧ w.heap.size + 1 < (W1.heap.size + 1) ∧ w.heap.size + 1 < W1.heap.size ∧ (W1.heap.size + 1) ≠ W1.heap.size) := Lib.hid (by have := blk_lt HPP1.out; have := blk_lt HQQ1.out; have := blk_lt HRR1.out; omega)
          have HNP : Hid (¬ S' (W1.heap.size + 1) ∧ ¬ S' W1.heap.size) := Lib.hid ⟨fun z => by have := HBK1.out.sub z; omega, fun z => by have := HBK1.out.sub z; omega⟩
          have HLW : Hid (w.heap.size ≤ (W1.heap.size + 1) ∧ w.heap.size ≤ W1.heap.size) := Lib.hid (by have := HT1.out.size; omega)
          clear hW2 hHeld hHeld2 hHeld3 hHeld4 hHeld5 h3 HK7 HV HP15 HRR1 HPP1 HQQ1 HBK1 HT1
          generalize hp7 : (W1.heap.size + 1) = a16 at *
          generalize hq7 : W1.heap.size = a17 at *
          clear hp7 hq7
          obtain ⟨kd, hkd⟩ : ∃ kd, kd = k / 2 ^ d := ⟨_, rfl⟩
          have hkdb : kd ≤ 1024 := by rw [hkd]; exact Nat.le_trans (Nat.div_le_self _ _) (by omega)
          have HKD := Lib.hid hkd
          rw [← hkd] at HP2
          have c0 := blk_cell HP2.out 0
          have c1 := blk_cell HP2.out 1
          simp only [List.getElem?_toArray, List.getElem?_cons_zero, List.getElem?_cons_succ] at c0 c1
          have HRT := Lib.hid (fun W => right_any d kd (by omega) W)
          have HAB := Lib.hid (fun W => above_any d kd (by omega) (by omega) W)
          clear hkd hxa
          by_cases hpar : kd % 2 = 1
          · have hpb : (kd % 2 == 1) = true := by rw [beq_iff_eq]; exact hpar
            rw [hpb] at HRT
            go_wp2_with fail
            refine (HRT.out _).mono ?_
            rintro e w4 ⟨rfl, hb4⟩
            have HA4 := Lib.hid ((hb4.block _ (blk_lt HA2.out)).trans HA2.out)
            have HB4 := Lib.hid ((hb4.block _ (blk_lt HB2.out)).trans HB2.out)
            have HBK4 := Lib.hid (HBK2.out.below hb4)
            have HT4 : Hid (Turns S w w4) := Lib.hid (HT2.out.trans (S' := S) (Turns.of_below hb4) (fun _ _ z => z))
            obtain ⟨W5, hW5⟩ : ∃ W5, W5 = (w4.setRow a16 yd).setRow a17 sd := ⟨_, rfl⟩
            have h5 : ∀ j, j ≠ a16 → j ≠ a17 → W5.heap[j]? = w4.heap[j]? := fun j h1 h2 => by rw [hW5]; exact (setRow_other _ _ _ _ h2).trans (setRow_other _ _ _ _ h1)
            have HA5 : Hid (W5.heap[a16]? = some (.cells yd 36 (0, 0))) := Lib.hid (by rw [hW5]; exact (setRow_other _ _ _ _ (by have := HPQ2.out; omega)).trans (setRow_heap _ _ _ _ _ _ HA4.out))
            have HB5 : Hid (W5.heap[a17]? = some (.cells sd 36 (0, 0))) := Lib.hid (by rw [hW5]; exact setRow_heap _ _ _ _ _ _ ((setRow_other _ _ _ _ (by have := HPQ2.out; omega)).trans HB4.out))
            have HP5 := Lib.hid ((h5 p (by have := HPQ2.out; omega) (by have := HPQ2.out; omega)).trans ((hb4.block _ (blk_lt HP2.out)).trans HP2.out))
            have HQ5 := Lib.hid ((h5 q (by have := HPQ2.out; omega) (by have := HPQ2.out; omega)).trans ((hb4.block _ (blk_lt HQ2.out)).trans HQ2.out))
            have HR5 := Lib.hid ((h5 (w.heap.size + 1) (by have := HPQ2.out; omega) (by have := HPQ2.out; omega)).trans ((hb4.block _ (blk_lt HR2.out)).trans HR2.out))
            have HBK5 : Hid (IsBook W5 b g S' Tx' sh') := Lib.hid (by rw [hW5]; exact bk_setRow (bk_setRow HBK4.out HNP.out.1 _) HNP.out.2 _)
            have HT5 : Hid (Turns S w W5) := Lib.hid (by rw [hW5]; exact tS_setRow (tS_setRow HT4.out HLW.out.1 _) HLW.out.2 _)
            have HSY : Hid (sd.size = yd.size) := Lib.hid (HZS.out.symm.trans HZY.out)
            have HYS : Hid (yd.size = sd.size) := Lib.hid HSY.out.symm
            have HBX : Hid ((w4.setRow a16 yd).heap[a17]? = some (.cells yd 36 (0, 0))) := Lib.hid ((setRow_other _ _ _ _ (by have := HPQ2.out; omega)).trans HB4.out)
            have HW5 := Lib.hid hW5
            clear hW5 h5 hb4 c0 c1
            have c0 := blk_cell HP5.out 0
            have c1 := blk_cell HP5.out 1
            simp only [List.getElem?_toArray, List.getElem?_cons_zero, List.getElem?_cons_succ] at c0 c1
            go_wp2_with (first
              | (with_reducible refine wpList_load_row rfl 36 (.tmp 17) rfl _ rfl 36 _ _ _ HB4.out Tryz.underlying36 rfl HIY.out ?_)
              | (with_reducible refine wpList_load_row rfl 36 (.tmp 16) rfl _ rfl 36 _ _ _ HA4.out Tryz.underlying36 rfl HIS.out ?_)
              | (with_reducible refine wpList_store_row rfl 36 (.tmp 16) (.tmp 51) rfl _ _ rfl rfl 36 _ HA4.out HIY.out HSY.out HOY.out ?_)
              | (with_reducible refine wpList_store_row rfl 36 (.tmp 17) (.tmp 52) rfl _ _ rfl rfl 36 _ HBX.out HIS.out HYS.out HOS.out ?_; rw [← HW5.out]))
            refine (HAB.out _).mono ?_
            rintro e w6 ⟨rfl, hb6⟩
            have HA6 := Lib.hid ((hb6.block _ (blk_lt HA5.out)).trans HA5.out)
            have HB6 := Lib.hid ((hb6.block _ (blk_lt HB5.out)).trans HB5.out)
            have HP6 := Lib.hid ((hb6.block _ (blk_lt HP5.out)).trans HP5.out)
            have HQ6 := Lib.hid ((hb6.block _ (blk_lt HQ5.out)).trans HQ5.out)
            have HR6 := Lib.hid ((hb6.block _ (blk_lt HR5.out)).trans HR5.out)
            have HBK6 := Lib.hid (HBK5.out.below hb6)
            have HT6 : Hid (Turns S w w6) := Lib.hid (HT5.out.trans (S' := S) (Turns.of_below hb6) (fun _ _ z => z))
            clear hb6 c0 c1
            obtain ⟨W7, hW7⟩ : ∃ W7, W7 = w6.setRow p #[.int .i64 ((d : Int) + 1), .int .i64 ((kd : Int) / 2)] := ⟨_, rfl⟩
            have HA7 : Hid (W7.heap[a16]? = some (.cells yd 36 (0, 0))) := Lib.hid (by rw [hW7]; exact (setRow_other _ _ _ _ (by have := HPQ2.out; omega)).trans HA6.out)
            have HB7 : Hid (W7.heap[a17]? = some (.cells sd 36 (0, 0))) := Lib.hid (by rw [hW7]; exact (setRow_other _ _ _ _ (by have := HPQ2.out; omega)).trans HB6.out)
            have HP7 : Hid (W7.heap[p]? = some (.cells #[.int .i64 ((d : Int) + 1), .int .i64 ((kd : Int) / 2)] 55 (0, 0))) := Lib.hid (by rw [hW7]; exact setRow_heap _ _ _ _ _ _ HP6.out)
            have HQ7 : Hid (W7.heap[q]? = some (.cells sd 36 (0, 0))) := Lib.hid (by rw [hW7]; exact (setRow_other _ _ _ _ (by have := HPQ.out; omega)).trans HQ6.out)
            have HR7 : Hid (W7.heap[w.heap.size + 1]? = some (.cells (zeros 32) 36 (0, 0))) := Lib.hid (by rw [hW7]; exact (setRow_other _ _ _ _ (by have := HPQ.out; omega)).trans HR6.out)
            have HBK7 : Hid (IsBook W7 b g S' Tx' sh') := Lib.hid (by rw [hW7]; exact bk_setRow HBK6.out HSN.out.2.1 _)
            have HT7 : Hid (Turns S w W7) := Lib.hid (by rw [hW7]; exact tS_setRow HT6.out (by have := HPQ.out; omega) _)
            have HPS := Lib.hid (psum_any b g (d + 1) (kd / 2) (ps d) (upS k x ps d) S' Tx' sh' W7 HBK7.out (by omega) (by omega) HYD.out HSD.out)
            rw [Int.natCast_add, Int.natCast_ediv, Int.natCast_one, show ((2 : Nat) : Int) = 2 from rfl] at HPS
            rw [← HYDD.out, ← HSDD.out] at HPS
            obtain ⟨da, hda⟩ : ∃ z, z = digA (txt 1 [putL 1 (d + 1), putL 4 (kd / 2), (ps d), (upS k x ps d)]) := ⟨_, rfl⟩
            have hda2 : da.size = 32 := by rw [hda]; unfold digA; rw [rowV_size]
            have HIA := Lib.hid (info_dig hda2)
            have HOA : Hid (da.all (·.oneCell') = true) := Lib.hid (by rw [hda]; exact one_dig _)
            have HZA : Hid (sd.size = da.size) := Lib.hid (by rw [hda2, ← HZS.out]; simp [zeros])
            have HDA := Lib.hid hda
            have hUP : da = dA (upS k x ps (d + 1)) := by
              rw [hda, upS, ← HKD.out]
              have e1 : k / 2 ^ (d + 1) = kd / 2 := by rw [HKD.out, Nat.pow_succ, Nat.div_div_eq_div_mul]
              rw [e1, if_pos hpar, if_pos hpar]
              rfl
            have HUP := Lib.hid hUP
            have HW7 := Lib.hid hW7
            have HKE : Hid (kd / 2 = k / 2 ^ (d + 1)) := Lib.hid (by rw [HKD.out, Nat.pow_succ, Nat.div_div_eq_div_mul])
            clear hW7 hda hda2 hUP
            have c0 := blk_cell HP7.out 0
            have c1 := blk_cell HP7.out 1
            simp only [List.getElem?_toArray, List.getElem?_cons_zero, List.getElem?_cons_succ] at c0 c1
            go_wp2_with (first
              | (with_reducible refine wpList_store_row rfl 55 (.tmp 12) (.tmp 54) rfl _ _ rfl rfl 55 _ HP6.out (info_pl2 _ _) (sz_pl _ _ _ _) (one_pl _ _) ?_; rw [← HW7.out])
              | (with_reducible refine wpList_load_row rfl 36 (.tmp 16) rfl _ rfl 36 _ _ _ HA7.out Tryz.underlying36 rfl HIY.out ?_)
              | (with_reducible refine wpList_load_row rfl 36 (.tmp 17) rfl _ rfl 36 _ _ _ HB7.out Tryz.underlying36 rfl HIS.out ?_))
            refine (HPS.out).mono ?_
            rintro e w8 ⟨he, ht8, hb8⟩
            rw [← HDA.out] at he
            subst he
            have HQ8 := Lib.hid (turnsU ht8 HSN.out.2.2 HQ7.out)
            have HT8 : Hid (Turns S w w8) := Lib.hid (HT7.out.trans (S' := S') ht8 (fun j hj hj' => (HSS.out j hj').elim id (fun c => by omega)))
            have HR8 := turnsU ht8 HSN.out.1 HR7.out
            have HP8 := turnsU ht8 HSN.out.2.1 HP7.out
            have hlp := blk_lt HP7.out
            have hlq := blk_lt HQ7.out
            have hlr := blk_lt HR7.out
            have hsz7 := HT7.out.size
            obtain ⟨W9, hW9⟩ : ∃ W9, W9 = w8.setRow q da := ⟨_, rfl⟩
            have H9 : Hid (UpInv w b g k p q S x ps m (.int .i64 ((d : Int) + 1)) W9) := Lib.hid (by
              rw [hW9]
              refine ⟨d + 1, rfl, hlt, (setRow_other _ _ _ _ (by have := HPQ.out; omega)).trans HR8, ?_, ?_, tS_setRow HT8.out (by have := HPQ.out; omega) _, _, _, _, bk_setRow hb8 (fun z => z.elim HSN.out.2.2 (fun c => by omega)) _, fun j hj => hj.elim (HSS.out j) (fun c => .inr (by omega)), fun z => z.elim HSN.out.1 (fun c => by omega), fun z => z.elim HSN.out.2.1 (fun c => by omega), fun z => z.elim HSN.out.2.2 (fun c => by omega)⟩
              · rw [← HKE.out, Int.natCast_add, Int.natCast_ediv]
                exact (setRow_other _ _ _ _ (by have := HPQ.out; omega)).trans HP8
              · rw [← HUP.out]
                exact setRow_heap _ _ _ _ _ _ HQ8.out)
            have HW9 := Lib.hid hW9
            clear ht8 hb8 HR8 HP8 hlp hlq hlr hsz7 hW9
            go_wp2_with (with_reducible refine wpList_store_row rfl 36 (.tmp 13) (.tmp 59) rfl _ _ rfl rfl 36 _ HQ8.out HIA.out HZA.out HOA.out ?_; rw [← HW9.out])
            go_roundw
            case rel => exact H9.out
            case measure => simp [intOf]; omega
          · have hpb : (kd % 2 == 1) = false := by rw [beq_eq_false_iff_ne]; exact hpar
            rw [hpb] at HRT
            go_wp2_with fail
            refine (HRT.out _).mono ?_
            rintro e w4 ⟨rfl, hb4⟩
            have HA5 := Lib.hid ((hb4.block _ (blk_lt HA2.out)).trans HA2.out)
            have HB5 := Lib.hid ((hb4.block _ (blk_lt HB2.out)).trans HB2.out)
            have HP5 := Lib.hid ((hb4.block _ (blk_lt HP2.out)).trans HP2.out)
            have HQ5 := Lib.hid ((hb4.block _ (blk_lt HQ2.out)).trans HQ2.out)
            have HR5 := Lib.hid ((hb4.block _ (blk_lt HR2.out)).trans HR2.out)
            have HBK5 := Lib.hid (HBK2.out.below hb4)
            have HT5 : Hid (Turns S w w4) := Lib.hid (HT2.out.trans (S' := S) (Turns.of_below hb4) (fun _ _ z => z))
            clear hb4 c0 c1
            have c0 := blk_cell HP5.out 0
            have c1 := blk_cell HP5.out 1
            simp only [List.getElem?_toArray, List.getElem?_cons_zero, List.getElem?_cons_succ] at c0 c1
            go_wp2_with fail
            refine (HAB.out _).mono ?_
            rintro e w6 ⟨rfl, hb6⟩
            have HA6 := Lib.hid ((hb6.block _ (blk_lt HA5.out)).trans HA5.out)
            have HB6 := Lib.hid ((hb6.block _ (blk_lt HB5.out)).trans HB5.out)
            have HP6 := Lib.hid ((hb6.block _ (blk_lt HP5.out)).trans HP5.out)
            have HQ6 := Lib.hid ((hb6.block _ (blk_lt HQ5.out)).trans HQ5.out)
            have HR6 := Lib.hid ((hb6.block _ (blk_lt HR5.out)).trans HR5.out)
            have HBK6 := Lib.hid (HBK5.out.below hb6)
            have HT6 : Hid (Turns S w w6) := Lib.hid (HT5.out.trans (S' := S) (Turns.of_below hb6) (fun _ _ z => z))
            clear hb6 c0 c1
            obtain ⟨W7, hW7⟩ : ∃ W7, W7 = w6.setRow p #[.int .i64 ((d : Int) + 1), .int .i64 ((kd : Int) / 2)] := ⟨_, rfl⟩
            have HA7 : Hid (W7.heap[a16]? = some (.cells sd 36 (0, 0))) := Lib.hid (by rw [hW7]; exact (setRow_other _ _ _ _ (by have := HPQ2.out; omega)).trans HA6.out)
            have HB7 : Hid (W7.heap[a17]? = some (.cells yd 36 (0, 0))) := Lib.hid (by rw [hW7]; exact (setRow_other _ _ _ _ (by have := HPQ2.out; omega)).trans HB6.out)
            have HP7 : Hid (W7.heap[p]? = some (.cells #[.int .i64 ((d : Int) + 1), .int .i64 ((kd : Int) / 2)] 55 (0, 0))) := Lib.hid (by rw [hW7]; exact setRow_heap _ _ _ _ _ _ HP6.out)
            have HQ7 : Hid (W7.heap[q]? = some (.cells sd 36 (0, 0))) := Lib.hid (by rw [hW7]; exact (setRow_other _ _ _ _ (by have := HPQ.out; omega)).trans HQ6.out)
            have HR7 : Hid (W7.heap[w.heap.size + 1]? = some (.cells (zeros 32) 36 (0, 0))) := Lib.hid (by rw [hW7]; exact (setRow_other _ _ _ _ (by have := HPQ.out; omega)).trans HR6.out)
            have HBK7 : Hid (IsBook W7 b g S' Tx' sh') := Lib.hid (by rw [hW7]; exact bk_setRow HBK6.out HSN.out.2.1 _)
            have HT7 : Hid (Turns S w W7) := Lib.hid (by rw [hW7]; exact tS_setRow HT6.out (by have := HPQ.out; omega) _)
            have HPS := Lib.hid (psum_any b g (d + 1) (kd / 2) (upS k x ps d) (ps d) S' Tx' sh' W7 HBK7.out (by omega) (by omega) HSD.out HYD.out)
            rw [Int.natCast_add, Int.natCast_ediv, Int.natCast_one, show ((2 : Nat) : Int) = 2 from rfl] at HPS
            rw [← HSDD.out, ← HYDD.out] at HPS
            obtain ⟨da, hda⟩ : ∃ z, z = digA (txt 1 [putL 1 (d + 1), putL 4 (kd / 2), (upS k x ps d), (ps d)]) := ⟨_, rfl⟩
            have hda2 : da.size = 32 := by rw [hda]; unfold digA; rw [rowV_size]
            have HIA := Lib.hid (info_dig hda2)
            have HOA : Hid (da.all (·.oneCell') = true) := Lib.hid (by rw [hda]; exact one_dig _)
            have HZA : Hid (sd.size = da.size) := Lib.hid (by rw [hda2, ← HZS.out]; simp [zeros])
            have HDA := Lib.hid hda
            have hUP : da = dA (upS k x ps (d + 1)) := by
              rw [hda, upS, ← HKD.out]
              have e1 : k / 2 ^ (d + 1) = kd / 2 := by rw [HKD.out, Nat.pow_succ, Nat.div_div_eq_div_mul]
              rw [e1, if_neg hpar, if_neg hpar]
              rfl
            have HUP := Lib.hid hUP
            have HW7 := Lib.hid hW7
            have HKE : Hid (kd / 2 = k / 2 ^ (d + 1)) := Lib.hid (by rw [HKD.out, Nat.pow_succ, Nat.div_div_eq_div_mul])
            clear hW7 hda hda2 hUP
            have c0 := blk_cell HP7.out 0
            have c1 := blk_cell HP7.out 1
            simp only [List.getElem?_toArray, List.getElem?_cons_zero, List.getElem?_cons_succ] at c0 c1
            go_wp2_with (first
              | (with_reducible refine wpList_store_row rfl 55 (.tmp 12) (.tmp 54) rfl _ _ rfl rfl 55 _ HP6.out (info_pl2 _ _) (sz_pl _ _ _ _) (one_pl _ _) ?_; rw [← HW7.out])
              | (with_reducible refine wpList_load_row rfl 36 (.tmp 16) rfl _ rfl 36 _ _ _ HA7.out Tryz.underlying36 rfl HIS.out ?_)
              | (with_reducible refine wpList_load_row rfl 36 (.tmp 17) rfl _ rfl 36 _ _ _ HB7.out Tryz.underlying36 rfl HIY.out ?_))
            refine (HPS.out).mono ?_
            rintro e w8 ⟨he, ht8, hb8⟩
            rw [← HDA.out] at he
            subst he
            have HQ8 := Lib.hid (turnsU ht8 HSN.out.2.2 HQ7.out)
            have HT8 : Hid (Turns S w w8) := Lib.hid (HT7.out.trans (S' := S') ht8 (fun j hj hj' => (HSS.out j hj').elim id (fun c => by omega)))
            have HR8 := turnsU ht8 HSN.out.1 HR7.out
            have HP8 := turnsU ht8 HSN.out.2.1 HP7.out
            have hlp := blk_lt HP7.out
            have hlq := blk_lt HQ7.out
            have hlr := blk_lt HR7.out
            have hsz7 := HT7.out.size
            obtain ⟨W9, hW9⟩ : ∃ W9, W9 = w8.setRow q da := ⟨_, rfl⟩
            have H9 : Hid (UpInv w b g k p q S x ps m (.int .i64 ((d : Int) + 1)) W9) := Lib.hid (by
              rw [hW9]
              refine ⟨d + 1, rfl, hlt, (setRow_other _ _ _ _ (by have := HPQ.out; omega)).trans HR8, ?_, ?_, tS_setRow HT8.out (by have := HPQ.out; omega) _, _, _, _, bk_setRow hb8 (fun z => z.elim HSN.out.2.2 (fun c => by omega)) _, fun j hj => hj.elim (HSS.out j) (fun c => .inr (by omega)), fun z => z.elim HSN.out.1 (fun c => by omega), fun z => z.elim HSN.out.2.1 (fun c => by omega), fun z => z.elim HSN.out.2.2 (fun c => by omega)⟩
              · rw [← HKE.out, Int.natCast_add, Int.natCast_ediv]
                exact (setRow_other _ _ _ _ (by have := HPQ.out; omega)).trans HP8
              · rw [← HUP.out]
                exact setRow_heap _ _ _ _ _ _ HQ8.out)
            have HW9 := Lib.hid hW9
            clear ht8 hb8 HR8 HP8 hlp hlq hlr hsz7 hW9
            go_wp2_with (with_reducible refine wpList_store_row rfl 36 (.tmp 13) (.tmp 59) rfl _ _ rfl rfl 36 _ HQ8.out HIA.out HZA.out HOA.out ?_; rw [← HW9.out])
            go_roundw
            case rel => exact H9.out
            case measure => simp [intOf]; omega
      · obtain rfl : d = m := by omega
        have hsd := upS_dig (k := k) (ps := ps) HX.out d
        have hsz32 : (dA (upS k x ps d)).size = 32 := by rw [rowV_size]
        have HIS := Lib.hid (info_dig hsz32)
        have HRT2 := Lib.hid (troot_any b g n (upS k x ps d) S' Tx' sh' wr hb (by omega) hsd)
        obtain ⟨sd, hsdd⟩ : ∃ z, z = dA (upS k x ps d) := ⟨_, rfl⟩
        rw [← hsdd] at HIS HRT2 hq
        obtain ⟨da, hda⟩ : ∃ z, z = digA (txt 2 [putL 4 n, upS k x ps d]) := ⟨_, rfl⟩
        have hda2 : da.size = 32 := by rw [hda]; unfold digA; rw [rowV_size]
        have HIA := Lib.hid (info_dig hda2)
        have HOA : Hid (da.all (·.oneCell') = true) := Lib.hid (by rw [hda]; exact one_dig _)
        have HZR : Hid ((zeros 32).size = da.size) := Lib.hid (by rw [hda2]; simp [zeros])
        have HDA := Lib.hid hda
        have HQ := Lib.hid hq
        have HR := Lib.hid hr
        have HT := Lib.hid ht
        have HSS := Lib.hid hs'
        have HSR := Lib.hid hsr
        clear hsd hsz32 hsdd hda hda2 hq hr ht hs' hsr hp hb hsp hsq H0
        go_wp2_with (with_reducible refine wpList_load_row rfl 36 (.tmp 13) rfl _ rfl 36 _ _ _ HQ.out Tryz.underlying36 rfl HIS.out ?_)
        refine (HRT2.out).mono ?_
        rintro e w8 ⟨he, ht8, hb8⟩
        rw [← HDA.out] at he
        subst he
        have HR8 := Lib.hid (turnsU ht8 HSR.out HR.out)
        have HF := Lib.hid (setRow_heap _ _ _ da _ _ HR8.out)
        have HU : Hid (UpYes w b g S (txt 2 [putL 4 n, upS k x ps d]) (.returned (.tuple #[.agg da, .int .i64 0])) (w8.setRow (w.heap.size + 1) da)) := Lib.hid (by
          have := blk_lt HR.out
          have := HT.out.size
          refine ⟨by rw [HDA.out], tS_setRow (HT.out.trans (S' := S') ht8 (fun j hj hj' => (HSS.out j hj').elim id (fun c => by omega))) (by omega) _, _, _, _, bk_setRow hb8 (fun z => z.elim HSR.out (fun c => by omega)) _, fun j hj => hj.elim (HSS.out j) (fun c => .inr (by omega))⟩)
        clear ht8 hb8
        go_wp2_with (with_reducible refine wpList_store_row rfl 36 (.tmp 10) (.tmp 64) rfl _ _ rfl rfl 36 _ HR8.out HIA.out HZR.out HOA.out ?_)
        exact bodyPost_ret (v := .tuple #[.agg da, .int .i64 0]) (rts_row rfl _ _ _ 36 _ (0, 0) _ _ rfl rfl HF.out Tryz.underlying36 rfl HIA.out) rfl HU.out
end
section
open Go.RowKit Go
set_option linter.unusedVariables false
set_option linter.unusedSimpArgs false
def bsN (i : Nat) : Nat := if i % 2 = 1 then i - 1 else i + 1
theorem bsN_xor (i : Nat) : i ^^^ 1 = bsN i := by
  have h1 : (i ^^^ 1) / 2 = i / 2 := by rw [Nat.xor_div_two]; simp
  have h2 : (i ^^^ 1) % 2 = (i % 2) ^^^ 1 := by
    have := Nat.xor_mod_two_pow (a := i) (b := 1) (n := 1)
    simpa using this
  unfold bsN
  rcases Nat.mod_two_eq_zero_or_one i with h | h
  · rw [h] at h2 ⊢
    rw [if_neg (by omega)]
    have : (0 ^^^ 1 : Nat) = 1 := rfl
    omega
  · rw [h] at h2 ⊢
    rw [if_pos rfl]
    have : (1 ^^^ 1 : Nat) = 0 := rfl
    omega
theorem bsN_lt {i n : Nat} (h : i < 2 ^ (n + 1)) : bsN i < 2 ^ (n + 1) := by
  unfold bsN
  have : 2 ^ (n + 1) = 2 * 2 ^ n := by rw [Nat.pow_succ]; omega
  split <;> omega
theorem up_tree {D k : Nat} {F : Nat → Nat → List Nat} (hr : ∀ d i, d + 1 ≤ D → i < 2 ^ (D - (d + 1)) → Right F d i) (hk : k < 2 ^ D) : ∀ d, d ≤ D → upS k (F 0 k) (fun d => F d (bsN (k / 2 ^ d))) d = F d (k / 2 ^ d)
  | 0, _ => by show F 0 k = F 0 (k / 2 ^ 0); rw [Nat.pow_zero, Nat.div_one]
  | d + 1, h => by
    have ih := up_tree hr hk d (by omega)
    have hlt : k / 2 ^ (d + 1) < 2 ^ (D - (d + 1)) := by
      rw [Nat.div_lt_iff_lt_mul (Nat.two_pow_pos _), ← Nat.pow_add, show D - (d + 1) + (d + 1) = D by omega]; exact hk
    have h1 := hr d (k / 2 ^ (d + 1)) h hlt
    unfold Right at h1
    have e : k / 2 ^ (d + 1) = k / 2 ^ d / 2 := by rw [Nat.pow_succ, Nat.div_div_eq_div_mul]
    unfold upS
    rw [h1, ih]
    obtain ⟨j, hj⟩ : ∃ j, j = k / 2 ^ d := ⟨_, rfl⟩
    rw [e, ← hj]
    rcases Nat.mod_two_eq_zero_or_one j with hm | hm
    · rw [if_neg (by omega), if_neg (by omega)]
      have e1 : bsN j = 2 * (j / 2) + 1 := by unfold bsN; rw [if_neg (by omega)]; omega
      have e2 : j = 2 * (j / 2) := by omega
      rw [e1, ← e2]
    · rw [if_pos hm, if_pos hm]
      have e1 : bsN j = 2 * (j / 2) := by unfold bsN; rw [if_pos hm]; omega
      have e2 : j = 2 * (j / 2) + 1 := by omega
      rw [e1, ← e2]
theorem thas_any (T b n D lb cap : Nat) (k : Int) (q : Nat → Nat) (F : Nat → Nat → List Nat) (w : World) (h : TrB w T b n D lb cap q F) :
    Calls Tryz.prog 20 #[.pointer (some ⟨T, 0, none⟩), .int .i64 k] w fun e w' => e = .returned (.bool (decide (0 ≤ k ∧ k < (n : Int)))) ∧ w = w' := by
  have HL := Lib.hid (tlen_any T b n D lb cap q F w h)
  clear h
  obtain ⟨bb, hbb⟩ : ∃ bb, bb = decide (0 ≤ k ∧ k < (n : Int)) := ⟨_, rfl⟩
  rw [← hbb]
  by_cases h0 : 0 ≤ k
  · have HD : Hid (decide (k < (n : Int)) = bb) := Lib.hid (by rw [hbb]; simp [h0])
    clear hbb
    go_enter Tryz.func20, Tryz.ntmps20
    go_wp2_with fail
    refine HL.out.mono ?_
    rintro e w' ⟨rfl, rfl⟩
    go_wp2
    go_ret
    exact ⟨by rw [← HD.out]; rfl, rfl⟩
  · have HD : Hid (bb = false) := Lib.hid (by rw [hbb]; simp [h0])
    clear hbb
    go_enter Tryz.func20, Tryz.ntmps20
    go_wp2
    go_ret
    exact ⟨by rw [HD.out]; rfl, rfl⟩
theorem beside_any (l i : Nat) (hi : i ≤ 1000000) (w : World) : Calls Tryz.prog 24 #[.agg #[.int .i64 (l : Int), .int .i64 (i : Int)]] w fun e w' => e = .returned (.int .i64 (bsN i : Int)) ∧ Below w.heap.size w w' := by
  have HX : Hid (bits .xor .i64 (i : Int) 1 = (bsN i : Int)) := Lib.hid (by rw [← bsN_xor]; exact xori (a := i) (b := 1) (by omega) (by omega))
  have hx := HX.out
  generalize bsN i = j at *
  go_enter Tryz.func24, Tryz.ntmps24
  go_wp2
  go_ret
  exact ⟨rfl, (Below.refl _ _).alloc (Nat.le_refl _) _⟩
theorem make_dg (D : Nat) (hD : D ≤ 1000) : ∃ cs : Array Value, cs.size = D * 32 ∧ ∀ w, (Instr.makeSlice 30 (.int .i64 0) (.int .i64 (D : Int))).run Tryz.prog w = .ok (.slice (some ⟨w.heap.size, 0, none⟩) 0 D) (w.alloc (.cells cs DgT)) := by
  obtain ⟨i, h0, h1, h2, h3⟩ := info_parts dg_info
  refine ⟨madeCells (Value.agg (zeros 32)).cells (D * 32), by unfold madeCells; simp, fun w => ?_⟩
  have hr := run_make (P := Tryz.prog) w 30 DgT i _ Tryz.underlying30 h0 h1 .i64 .i64 0 D (by omega) (by omega) (by rw [h3]; omega) (by omega)
  rw [hr, h2]
  simp only [Int.toNat_natCast, Int.toNat_zero]
theorem step_bd1 {K : Act → World → Prop} {o : Oper} {a : Act} {w : World} {Q : Exit → Act → World → Prop} (x : Operand) (ho : o.op = .buildSlice 30 1 #[(0, x)]) (xd : Array Value) (hx2 : xd.size = 32) (hx : a.eval x = .agg xd)
    (h : K (a.put o.dst (.slice (some ⟨w.heap.size, 0, none⟩) 1 1)) (w.alloc (.cells xd DgT))) : Oper.wp Tryz.prog o a w K Q := by
  obtain ⟨ie, h0, h1, h2, h3⟩ := info_parts dg_info
  refine wp_buildSlice 30 DgT 1 #[(0, x)] ho xd ie _ Tryz.underlying30 h0 h1 (by rw [h2]; omega) (by rw [h2]; omega) ?_ h
  rw [h2]
  simp only [List.map_toArray, List.map_cons, List.map_nil, hx]
  exact fill_one xd hx2
theorem step_apD {K : Act → World → Prop} {o : Oper} {a : Act} {Q : Exit → Act → World → Prop} (W : World) (s x : Operand)
    (ho : o.op = .call { callee := .builtin .append, args := #[s, x], argTypes := #[30, 30] })
    (B : Nat) (v : Value) (n : Nat) (xs : List Value) (xd : Array Value) (hx32 : xd.size = 32) (hone : xd.all (·.oneCell') = true) (hs : a.eval s = v) (hown : W.ownsRow B DgT 32 v n xs) (e : Nat) (he : W.heap[e]? = some (.cells xd DgT (0, 0)))
    (hx : a.eval x = .slice (some ⟨e, 0, none⟩) 1 1) (hn : n < 1000) (hB : B ≤ W.heap.size)
    (h : ∀ v' w', w'.ownsRow B DgT 32 v' (n + 1) (xs ++ xd.toList) → Below B W w' → (∀ k, k < W.heap.size → v.ownBlock ≠ some k → w'.heap[k]? = W.heap[k]?) → K (a.put o.dst v') w') :
    Oper.wp Tryz.prog o a W K Q := by
  obtain ⟨i0, hi, hz0, hz1, hz2⟩ := info_parts dg_info
  refine wp_append_own _ s x 30 ho B DgT i0 (.agg (zeros 32)) 32 32 Tryz.underlying30 hi hz0 hz1 hz2 (by simp [Value.cells, zeros]) (by decide) v n xs hs hown ⟨e, 0, none⟩ 1 1
    xd.toList hx (by rw [Array.length_toList]; omega) ?_ ?_ (by unfold maxLen; omega) (by omega) hB ?_
  · intro j u hj
    have e1 : (⟨e, 0, none⟩ : Addr).add j = ⟨e, j, none⟩ := by unfold Addr.add; split <;> simp_all
    rw [e1, blk_cell he j]
    simpa using hj
  · intro u hu
    exact (Array.all_eq_true_iff_forall_mem.1 hone) u (by simpa using hu)
  · intro v' w1 hown' hg _
    exact h v' w1 hown' ((Below.refl B W).grown hg hB (fun k hk => (World.ownsRow.lt hown k hk).1)) (fun k hk hne => hg.block k hk (fun e => hne e.symm))
theorem own_far {w : World} {B s n b : Nat} {v : Value} {e t : TypeId} {vs : List Value} {cs : Array Value} {f : Nat × Nat} (h : w.ownsRow B e s v n vs) (hb : w.heap[b]? = some (.cells cs t f)) (ht : t ≠ e) : v.ownBlock ≠ some b := fun hv => by
  obtain ⟨_, k⟩ := h
  rcases k with ⟨rfl, _⟩ | ⟨g2, cap, cur, rfl, _, hh, _⟩
  · cases hv
  · have e2 : g2 = b := Option.some.inj (show (some g2 : Option Nat) = some b from hv)
    subst e2
    rw [hb] at hh
    have h4 := Option.some.inj hh
    injection h4 with _ h5 _
    exact ht h5
theorem own_keepH {w w' : World} {B s n : Nat} {v : Value} {e : TypeId} {vs : List Value} (h : w.ownsRow B e s v n vs) (hk : ∀ g, v.ownBlock = some g → w'.heap[g]? = w.heap[g]?) : w'.ownsRow B e s v n vs := by
  obtain ⟨a1, a2⟩ := h
  refine ⟨a1, ?_⟩
  rcases a2 with a2 | ⟨g, cap, cur, hv, hbg, hh, hr⟩
  · exact .inl a2
  · exact .inr ⟨g, cap, cur, hv, hbg, (hk g (by rw [hv]; rfl)).trans hh, hr⟩
/-- a row of one's own is new -/
def PthTo (w : World) (n : Nat) (ls : Nat → List Nat) (e : Ending) (w' : World) : Prop := ∃ A c, e = .returned (.slice A n c) ∧ n ≤ c ∧ DgS w' A n ls ∧ Below w.heap.size w w' ∧ ∀ ad, A = some ad → w.heap.size ≤ ad.block
theorem pth_end {w W : World} {n : Nat} {ls : Nat → List Nat} {v : Value} (h : W.ownsRow w.heap.size DgT 32 v n (flatD ls n)) (hb : Below w.heap.size w W) (hd : ∀ k, IsDig (ls k)) : PthTo w n ls (.returned v) W := by
  obtain ⟨A, c, he, h1, h2, h3⟩ := tdig_end h hb hd
  refine ⟨A, c, he, h1, h2, h3, fun ad hA => ?_⟩
  injection he with he
  rw [he] at h
  exact (World.ownsRow.lt h ad.block (by rw [hA]; rfl)).1
end
section
open Go.RowKit Go
set_option linter.unusedVariables false
set_option linter.unusedSimpArgs false
set_option maxRecDepth 100000
theorem tpath_out (T b n D lb cap : Nat) (k : Int) (q : Nat → Nat) (F : Nat → Nat → List Nat) (w : World) (h : TrB w T b n D lb cap q F) (hk : ¬ (0 ≤ k ∧ k < (n : Int))) :
    Calls Tryz.prog 8 #[.pointer (some ⟨T, 0, none⟩), .int .i64 k] w fun e w' => e = .returned (.slice none 0 0) ∧ w = w' := by
  have HH := Lib.hid (thas_any T b n D lb cap k q F w h)
  rw [decide_eq_false hk] at HH
  clear h hk
  go_enter Tryz.func8, Tryz.ntmps8
  go_wp2_with fail
  refine HH.out.mono ?_
  rintro e w' ⟨rfl, rfl⟩
  go_wp2
  go_ret
  exact ⟨rfl, rfl⟩
def psF (F : Nat → Nat → List Nat) (k : Nat) (d : Nat) : List Nat := F d (bsN (k / 2 ^ d))
def PaR (w : World) (T b n D lb cap k : Nat) (q : Nat → Nat) (F : Nat → Nat → List Nat) (gk : Nat) (v5 v6 : Value) (W : World) : Prop :=
  ∃ d p6 : Nat, d + gk = D ∧ v6 = .pointer (some ⟨p6, 0, none⟩) ∧ W.ownsRow w.heap.size DgT 32 v5 d (flatD (psF F k) d) ∧ W.heap[p6]? = some (.cells #[.int .i64 (d : Int), .int .i64 ((k / 2 ^ d : Nat) : Int)] 55 (0, 0)) ∧ w.heap.size ≤ p6 ∧ Below w.heap.size w W
set_option maxHeartbeats 8000000 in
theorem tpath_any (T b n D lb cap k : Nat) (q : Nat → Nat) (F : Nat → Nat → List Nat) (w : World) (h : TrB w T b n D lb cap q F) (hk : k < n) (hn : n ≤ 1024) :
    Calls Tryz.prog 8 #[.pointer (some ⟨T, 0, none⟩), .int .i64 (k : Int)] w (PthTo w D (psF F k)) := by
  have hD10 := h.D5
  have hkD : k < 2 ^ D := Nat.lt_of_lt_of_le hk h.n1.2
  have HH := Lib.hid (thas_any T b n D lb cap k q F w h)
  rw [decide_eq_true (show (0 : Int) ≤ (k : Int) ∧ (k : Int) < (n : Int) from ⟨by omega, by omega⟩)] at HH
  have HTR := Lib.hid h
  have HD0 := Lib.hid (tdepth_any T b n D lb cap q F w h)
  obtain ⟨zc, hzs, hmk⟩ := make_dg D (by omega)
  obtain ⟨W0, hW0⟩ : ∃ W0, W0 = (w.alloc (.cells zc DgT)).alloc (.cells #[.int .i64 0, .int .i64 (k : Int)] 55) := ⟨_, rfl⟩
  have hb0 : Below w.heap.size w W0 := by rw [hW0]; exact ((Below.refl _ _).alloc (Nat.le_refl _) _).alloc (by simp) _
  have hown0 : W0.ownsRow w.heap.size DgT 32 (.slice (some ⟨w.heap.size, 0, none⟩) 0 D) 0 (flatD (psF F k) 0) := by
    rw [hW0]
    exact World.ownsRow.alloc (World.ownsRow_made w zc D (Nat.le_refl _) (by unfold maxLen; omega) hzs) _
  have hp0 : W0.heap[w.heap.size + 1]? = some (.cells #[.int .i64 0, .int .i64 (k : Int)] 55 (0, 0)) := by
    have := heap_alloc_new (w.alloc (.cells zc DgT)) (.cells #[.int .i64 0, .int .i64 (k : Int)] 55)
    rw [show (w.alloc (.cells zc DgT)).heap.size = w.heap.size + 1 by simp] at this
    rw [hW0]; exact this
  have HR0 : Hid (PaR w T b n D lb cap k q F D (.slice (some ⟨w.heap.size, 0, none⟩) 0 D) (.pointer (some ⟨w.heap.size + 1, 0, none⟩)) W0) := Lib.hid ⟨0, w.heap.size + 1, by omega, rfl, hown0, by rw [Nat.pow_zero, Nat.div_one]; exact hp0, by omega, hb0⟩
  have HW0 := Lib.hid hW0
  have hDI : (0 : Int) ≤ (D : Int) := by omega
  clear h hW0 hb0 hown0 hp0 hzs hk
  go_enter Tryz.func8, Tryz.ntmps8
  go_wp2_with fail
  refine HH.out.mono ?_
  rintro e w' ⟨rfl, rfl⟩
  go_wp2_with fail
  refine HD0.out.mono ?_
  rintro e w' ⟨rfl, rfl⟩
  go_wp2_with fail
  rw [← HW0.out]
  clear hmk HW0 HD0 HH
  go_loopg [5, 6] D (fun gk v5 v6 W => PaR w T b n D lb cap k q F gk v5 v6 W)
  case atStart => exact HR0.out
  case round =>
    clear HR0
    obtain ⟨d, p6, hgk, rfl, hown, hp, hpn, hb⟩ := hrel
    have HOW := Lib.hid hown
    have HP := Lib.hid hp
    have HPN := Lib.hid hpn
    have HB := Lib.hid hb
    have HGK := Lib.hid hgk
    clear hown hp hpn hb
    obtain ⟨i, hi⟩ : ∃ i, i = k / 2 ^ d := ⟨_, rfl⟩
    have HI := Lib.hid hi
    have hi9 : i ≤ 1000000 := by
      have : k / 2 ^ d ≤ k := Nat.div_le_self _ _
      have : 2 ^ D ≤ 2 ^ 10 := Nat.pow_le_pow_right (by omega) hD10
      omega
    rw [← hi] at HP
    clear hi
    obtain ⟨V, hV⟩ : ∃ V, V = wr.drew := ⟨_, rfl⟩
    have hbv : Below wr.heap.size wr V := by rw [hV]; exact (Below.refl _ _).drew
    have HBV := Lib.hid (HB.out.trans (hbv.mono HB.out.size))
    have HPV : Hid (V.heap[p6]? = some (.cells #[.int .i64 (d : Int), .int .i64 (i : Int)] 55 (0, 0))) := Lib.hid ((hbv.block _ (blk_lt HP.out)).trans HP.out)
    have HOV : Hid (V.ownsRow w.heap.size DgT 32 u5 d (flatD (psF F k) d)) := Lib.hid (own_keepH HOW.out (fun g hg => hbv.block g (World.ownsRow.lt HOW.out g hg).2))
    have HTV := Lib.hid (HTR.out.next HBV.out)
    have HDP := Lib.hid (tdepth_any T b n D lb cap q F V HTV.out)
    have HK : Hid (∀ W, Below V.heap.size V W → W.cell? ⟨p6, 0, none⟩ = some (.int .i64 (d : Int)) ∧ W.cell? ⟨p6, 1, none⟩ = some (.int .i64 (i : Int))) := Lib.hid (fun W hw => by
      have hx := (hw.block _ (blk_lt HPV.out)).trans HPV.out
      exact ⟨blk_cell hx 0, blk_cell hx 1⟩)
    go_upto_region 5 with (fail)
    refine wp_region_F (S := fun (W : World) => W.cell? ⟨p6, 0, none⟩ = some (.int .i64 (d : Int)) ∧ W.cell? ⟨p6, 1, none⟩ = some (.int .i64 (i : Int))) [] (by kernel_rfl) (by rw [← hV]; exact HK.out V (Below.refl _ _)) (fun hHeld => ?_)
    rw [← hV] at hHeld ⊢
    clear hV hbv
    refine wpAnyF_take (i := 0) (oi := _) (v := ?_) rfl (by kernel_rfl) (by kernel_rfl) (by kernel_rfl) (by kernel_rfl) (fun _ _ _ h => h) (Or.inl ⟨by rfl, ?_⟩) (by assumption) ?_
    rotate_left 1
    · intro w hSw
      (try dsimp only at hSw)
      (first | (go_simp; done) | (go_simp; with_reducible rfl))
    (try simp only [Act.put, List.getElem_toArray, List.getElem_cons_succ, List.getElem_cons_zero, List.setIfInBounds_toArray, List.set_cons_zero, List.set_cons_succ])
    refine wpAnyF_take (i := 1) (oi := _) (v := ?_) rfl (by kernel_rfl) (by kernel_rfl) (by kernel_rfl) (by kernel_rfl) (fun _ _ _ h => h) (Or.inl ⟨by rfl, ?_⟩) (by assumption) ?_
    rotate_left 1
    · intro w hSw
      (try dsimp only at hSw)
      (first | (go_simp; done) | (go_simp; with_reducible rfl))
    (try simp only [Act.put, List.getElem_toArray, List.getElem_cons_succ, List.getElem_cons_zero, List.setIfInBounds_toArray, List.set_cons_zero, List.set_cons_succ])
    refine wpAnyF_take (i := 2) (oi := _) (v := ?_) rfl (by kernel_rfl) (by kernel_rfl) (by kernel_rfl) (by kernel_rfl) (fun _ _ _ h => h) (Or.inl ⟨by rfl, ?_⟩) (by assumption) ?_
    rotate_left 1
    · intro w hSw
      (try dsimp only at hSw)
      (first | (go_simp; done) | (go_simp; with_reducible rfl))
    (try simp only [Act.put, List.getElem_toArray, List.getElem_cons_succ, List.getElem_cons_zero, List.setIfInBounds_toArray, List.set_cons_zero, List.set_cons_succ])
    refine wpAnyF_ready (rs := [3]) (by kernel_rfl) (by simp) ?_
    refine AllReadyF.cons (o := _) rfl (fun K hK => ?_) AllReadyF.nil
    go_simp
    (go_at_call 21)
    refine (HDP.out).mono ?_
    rintro e w6 ⟨rfl, rfl⟩
    refine hK.out _ _ (HK.out V (Below.refl _ _)) (fun hHeld3 => ?_)
    clear hK K
    (try simp only [Act.put, List.getElem_toArray, List.getElem_cons_succ, List.getElem_cons_zero, List.setIfInBounds_toArray, List.set_cons_zero, List.set_cons_succ])
    refine wpAnyF_take (i := 4) (oi := _) (v := ?_) rfl (by kernel_rfl) (by kernel_rfl) (by kernel_rfl) (by kernel_rfl) (fun _ _ _ h => h) (Or.inl ⟨by rfl, ?_⟩) (by assumption) ?_
    rotate_left 1
    · intro w hSw
      (try dsimp only at hSw)
      (first | (go_simp; done) | (go_simp; with_reducible rfl))
    (try simp only [Act.put, List.getElem_toArray, List.getElem_cons_succ, List.getElem_cons_zero, List.setIfInBounds_toArray, List.set_cons_zero, List.set_cons_succ])
    refine wpAnyF_done (by kernel_rfl) ?_ _
    clear hHeld hHeld3
    by_cases hlt : d < D
    · skip
      have hlti : (d : Int) < (D : Int) := by omega
      go_upto_region 7 with (fail)
      obtain ⟨V7, hV7⟩ : ∃ V7, V7 = V.drew := ⟨_, rfl⟩
      have hbv7 : Below V.heap.size V V7 := by rw [hV7]; exact (Below.refl _ _).drew
      have HB7 := Lib.hid hbv7
      refine wp_region_F (S := fun (W : World) => W.cell? ⟨p6, 0, none⟩ = some (.int .i64 (d : Int)) ∧ W.cell? ⟨p6, 1, none⟩ = some (.int .i64 (i : Int))) [] (by kernel_rfl) (by rw [← hV7]; exact HK.out V7 hbv7) (fun hHeld => ?_)
      rw [← hV7] at hHeld ⊢
      clear hV7 hbv7
      refine wpAnyF_take (i := 0) (oi := _) (v := ?_) rfl (by kernel_rfl) (by kernel_rfl) (by kernel_rfl) (by kernel_rfl) (fun _ _ _ h => h) (Or.inl ⟨by rfl, ?_⟩) (by assumption) ?_
      rotate_left 1
      · intro w hSw
        (try dsimp only at hSw)
        (first | (go_simp; done) | (go_simp; with_reducible rfl))
      (try simp only [Act.put, List.getElem_toArray, List.getElem_cons_succ, List.getElem_cons_zero, List.setIfInBounds_toArray, List.set_cons_zero, List.set_cons_succ])
      refine wpAnyF_take (i := 1) (oi := _) (v := ?_) rfl (by kernel_rfl) (by kernel_rfl) (by kernel_rfl) (by kernel_rfl) (fun _ _ _ h => h) (Or.inl ⟨by rfl, ?_⟩) (by assumption) ?_
      rotate_left 1
      · intro w hSw
        (try dsimp only at hSw)
        (first | (go_simp; done) | (go_simp; with_reducible rfl))
      (try simp only [Act.put, List.getElem_toArray, List.getElem_cons_succ, List.getElem_cons_zero, List.setIfInBounds_toArray, List.set_cons_zero, List.set_cons_succ])
      refine wpAnyF_take (i := 2) (oi := _) (v := ?_) rfl (by kernel_rfl) (by kernel_rfl) (by kernel_rfl) (by kernel_rfl) (fun _ _ _ h => h) (Or.inl ⟨by rfl, ?_⟩) (by assumption) ?_
      rotate_left 1
      · intro w hSw
        (try dsimp only at hSw)
        (first | (go_simp; done) | (go_simp; with_reducible rfl))
      (try simp only [Act.put, List.getElem_toArray, List.getElem_cons_succ, List.getElem_cons_zero, List.setIfInBounds_toArray, List.set_cons_zero, List.set_cons_succ])
      refine wpAnyF_take (i := 3) (oi := _) (v := ?_) rfl (by kernel_rfl) (by kernel_rfl) (by kernel_rfl) (by kernel_rfl) (fun _ _ _ h => h) (Or.inl ⟨by rfl, ?_⟩) (by assumption) ?_
      rotate_left 1
      · intro w hSw
        (try dsimp only at hSw)
        (first | (go_simp; done) | (go_simp; with_reducible rfl))
      (try simp only [Act.put, List.getElem_toArray, List.getElem_cons_succ, List.getElem_cons_zero, List.setIfInBounds_toArray, List.set_cons_zero, List.set_cons_succ])
      refine wpAnyF_take (i := 4) (oi := _) (v := ?_) rfl (by kernel_rfl) (by kernel_rfl) (by kernel_rfl) (by kernel_rfl) (fun _ _ _ h => h) (Or.inl ⟨by rfl, ?_⟩) (by assumption) ?_
      rotate_left 1
      · intro w hSw
        (try dsimp only at hSw)
        (first | (go_simp; done) | (go_simp; with_reducible rfl))
      (try simp only [Act.put, List.getElem_toArray, List.getElem_cons_succ, List.getElem_cons_zero, List.setIfInBounds_toArray, List.set_cons_zero, List.set_cons_succ])
      refine wpAnyF_ready (rs := [5]) (by kernel_rfl) (by simp) ?_
      refine AllReadyF.cons (o := _) rfl (fun K hK => ?_) AllReadyF.nil
      go_simp
      (go_at_call 24)
      refine (beside_any d i hi9 V7).mono ?_
      rintro e w8 ⟨rfl, hb8⟩
      have HB8 := Lib.hid (HB7.out.trans (hb8.mono HB7.out.size))
      clear hb8
      refine hK.out _ _ (HK.out _ HB8.out) (fun hHeld5 => ?_)
      clear hK K
      (try simp only [Act.put, List.getElem_toArray, List.getElem_cons_succ, List.getElem_cons_zero, List.setIfInBounds_toArray, List.set_cons_zero, List.set_cons_succ])
      refine wpAnyF_ready (rs := [6]) (by kernel_rfl) (by simp) ?_
      refine AllReadyF.cons (o := _) rfl (fun K hK => ?_) AllReadyF.nil
      go_simp
      (go_at_call 23)
      have hbi1 : bsN i ≤ i + 1 := by
        unfold bsN
        split <;> omega
      have hbi : ((bsN i : Nat) : Int) ≤ 9223372036854775807 := by omega
      refine (tnode_any T b n D lb cap (d : Int) (bsN i : Int) q F w8 (HTV.out.next HB8.out) hbi).mono ?_
      rintro e w9 ⟨rfl, hb9⟩
      have hbs : bsN i < 2 ^ (D - d) := by
        have e1 : D - d = (D - d - 1) + 1 := by omega
        rw [e1]
        refine bsN_lt ?_
        rw [← e1, HI.out, Nat.div_lt_iff_lt_mul (Nat.two_pow_pos _), ← Nat.pow_add, show D - d + d = D by omega]
        exact hkD
      rw [nodeK_in (by omega) hbs]
      have HB9 := Lib.hid (HB8.out.trans (hb9.mono HB8.out.size))
      obtain ⟨xd, hxd⟩ : ∃ xd, xd = dA (F d (bsN i)) := ⟨_, rfl⟩
      have HX2 : Hid (xd.size = 32) := Lib.hid (by rw [hxd, rowV_size])
      have HXO : Hid (xd.all (·.oneCell') = true) := Lib.hid (by rw [hxd]; exact dA_one _)
      have HXD : Hid (flatD (psF F k) d ++ xd.toList = flatD (psF F k) (d + 1)) := Lib.hid (by rw [flatD_snoc, hxd]; unfold psF; rw [← HI.out])
      rw [← hxd]
      clear hb9 hxd hbs hbi hbi1
      refine hK.out _ _ (HK.out _ HB9.out) (fun hHeld6 => ?_)
      clear hK K
      (try simp only [Act.put, List.getElem_toArray, List.getElem_cons_succ, List.getElem_cons_zero, List.setIfInBounds_toArray, List.set_cons_zero, List.set_cons_succ])
      refine wpAnyF_ready (rs := [7]) (by kernel_rfl) (by simp) ?_
      refine AllReadyF.cons (o := _) rfl (fun K hK => ?_) AllReadyF.nil
      rw [if_pos (by kernel_rfl)]
      refine step_bd1 (.tmp 29) rfl xd HX2.out (by simp [Act.eval, Act.put]) ?_
      have hba : Below w9.heap.size w9 (w9.alloc (.cells xd DgT)) := (Below.refl _ _).alloc (Nat.le_refl _) _
      have HBA := Lib.hid (HB9.out.trans (hba.mono HB9.out.size))
      have HNA := Lib.hid (heap_alloc_new w9 (.cells xd DgT))
      clear hba
      refine hK.out _ _ (HK.out _ HBA.out) (fun hHeld7 => ?_)
      clear hK K
      (try simp only [Act.put, List.getElem_toArray, List.getElem_cons_succ, List.getElem_cons_zero, List.setIfInBounds_toArray, List.set_cons_zero, List.set_cons_succ])
      generalize w9.alloc (.cells xd DgT) = wa at *
      have HOA : Hid (wa.ownsRow w.heap.size DgT 32 u5 d (flatD (psF F k) d)) := Lib.hid (own_keepH HOV.out (fun g hg => HBA.out.block g (World.ownsRow.lt HOV.out g hg).2))
      have HPA := Lib.hid ((HBA.out.block _ (blk_lt HPV.out)).trans HPV.out)
      have HBWA := Lib.hid (HBV.out.trans (HBA.out.mono HBV.out.size))
      refine wpAnyF_ready (rs := [8]) (by kernel_rfl) (by simp) ?_
      refine AllReadyF.cons (o := _) rfl (fun K hK => ?_) AllReadyF.nil
      rw [if_pos (by kernel_rfl)]
      refine step_apD wa (.tmp 23) (.tmp 30) rfl w.heap.size u5 d (flatD (psF F k) d) xd HX2.out HXO.out rfl HOA.out w9.heap.size HNA.out rfl (by omega) HBWA.out.size ?_
      intro v' w1 hown1 hb1 hfar
      rw [HXD.out] at hown1
      have HO1 := Lib.hid hown1
      have HB1 := Lib.hid (HBWA.out.trans hb1)
      have hp1 := (hfar p6 (blk_lt HPA.out) (own_far HOA.out HPA.out (by decide))).trans HPA.out
      have HP1 := Lib.hid hp1
      clear hown1 hb1 hfar
      refine hK.out _ _ (⟨blk_cell hp1 0, blk_cell hp1 1⟩) (fun hHeld8 => ?_)
      clear hK K
      (try simp only [Act.put, List.getElem_toArray, List.getElem_cons_succ, List.getElem_cons_zero, List.setIfInBounds_toArray, List.set_cons_zero, List.set_cons_succ])
      clear hp1
      refine wpAnyF_take (i := 9) (oi := _) (v := ?_) rfl (by kernel_rfl) (by kernel_rfl) (by kernel_rfl) (by kernel_rfl) (fun _ _ _ h => h) (Or.inl ⟨by rfl, ?_⟩) (by assumption) ?_
      rotate_left 1
      · intro w hSw
        (try dsimp only at hSw)
        (first | (go_simp; done) | (go_simp; with_reducible rfl))
      (try simp only [Act.put, List.getElem_toArray, List.getElem_cons_succ, List.getElem_cons_zero, List.setIfInBounds_toArray, List.set_cons_zero, List.set_cons_succ])
      refine wpAnyF_done (by kernel_rfl) ?_ _
      clear hHeld hHeld5 hHeld6 hHeld7 hHeld8
      have y0 := blk_cell HP1.out 0
      have y1 := blk_cell HP1.out 1
      have hx11 := heap_alloc_new w1 (.cells #[.int .i64 (d : Int), .int .i64 (i : Int)] 55)
      have hb11 : Below w1.heap.size w1 (w1.alloc (.cells #[.int .i64 (d : Int), .int .i64 (i : Int)] 55)) := (Below.refl _ _).alloc (Nat.le_refl _) _
      go_wp2_with fail
      have HX11 := Lib.hid hx11
      have HB11 := Lib.hid hb11
      have HL1 : Hid (w1.heap.size < (w1.alloc (.cells #[.int .i64 (d : Int), .int .i64 (i : Int)] 55)).heap.size) := Lib.hid (by simp)
      clear hx11 hb11 y0 y1
      generalize w1.alloc (.cells #[.int .i64 (d : Int), .int .i64 (i : Int)] 55) = w11 at *
      obtain ⟨p', hp'⟩ : ∃ p', p' = w1.heap.size := ⟨_, rfl⟩
      rw [← hp'] at HX11 HL1 ⊢
      have HPP := Lib.hid hp'
      clear hp'
      refine (above_any d i (by omega) hi9 w11).mono ?_
      rintro e w12 ⟨rfl, hb12⟩
      have hx12 := (hb12.block _ HL1.out).trans HX11.out
      have HX12 := Lib.hid hx12
      have HB12 := Lib.hid (HB11.out.trans (hb12.mono HB11.out.size))
      have y0 := blk_cell hx12 0
      have y1 := blk_cell hx12 1
      have y2 := blk_free hx12 0
      have y3 := blk_free hx12 1
      have HREL : Hid (PaR w T b n D lb cap k q F (D - (d + 1)) v' (.pointer (some ⟨p', 0, none⟩)) ((w12.setCell ⟨p', 0, none⟩ (.int .i64 ((d + 1 : Nat) : Int))).setCell ⟨p', 1, none⟩ (.int .i64 ((i / 2 : Nat) : Int)))) := Lib.hid ⟨d + 1, p', by omega, rfl, own_keepH HO1.out (fun g hg => by
          have hg1 := (World.ownsRow.lt HO1.out g hg).2
          have hne : g ≠ p' := by rw [HPP.out]; omega
          exact ((Below.heap_setCell _ _ _ g hne).trans (Below.heap_setCell _ _ _ g hne)).trans (HB12.out.block g hg1)), by
          have hz := blk_set (blk_set HX12.out 0 (.int .i64 ((d + 1 : Nat) : Int))) 1 (.int .i64 ((i / 2 : Nat) : Int))
          rw [show k / 2 ^ (d + 1) = i / 2 by rw [HI.out, Nat.pow_succ, Nat.div_div_eq_div_mul]]
          simpa using hz, by rw [HPP.out]; exact HB1.out.size, ((HB1.out.trans (HB12.out.mono HB1.out.size)).setCell (p := ⟨p', 0, none⟩) (by show w.heap.size ≤ p'; rw [HPP.out]; exact HB1.out.size) _).setCell (p := ⟨p', 1, none⟩) (by show w.heap.size ≤ p'; rw [HPP.out]; exact HB1.out.size) _⟩
      clear hb12 hx12
      generalize ((d + 1 : Nat) : Int) = d1 at *
      generalize ((i / 2 : Nat) : Int) = i1 at *
      go_wp2_with fail
      go_roundg (D - (d + 1))
      case measure => omega
      case rel => exact HREL.out
    · have hdD : d = D := by omega
      have HE : Hid (PthTo w D (psF F k) (.returned u5) V) := Lib.hid (pth_end (by rw [← hdD]; exact HOV.out) HBV.out (fun d => HTR.out.dig _ _))
      go_wp2_with fail
      go_ret
      exact HE.out
end
section
open Go.RowKit Go
set_option linter.unusedVariables false
set_option linter.unusedSimpArgs false
set_option maxRecDepth 100000
theorem d32_info : (Tryz.prog.info? 35).map (fun i => (i.zero, i.size, i.bytes)) = some (some (.agg (zeros 32)), 32, 32) := by kernel_rfl
theorem wpList_build1R {ops : Array Oper} {rest : List Oper} {o : Oper} {a : Act} {w : World} {Q : Exit → Act → World → Prop} (hg : o.guard = none) (x : Operand) (ho : o.op = .buildSlice 22 1 #[(0, x)]) (xd : Array Value) (hx2 : xd.size = 32) (hx : a.eval x = .agg xd)
    (h : wpList Tryz.prog ops Q rest (a.put o.dst (.slice (some ⟨w.heap.size, 0, none⟩) 1 1)) (w.alloc (.cells xd 35))) : wpList Tryz.prog ops Q (o :: rest) a w := by
  obtain ⟨ie, h0, h1, h2, h3⟩ := info_parts d32_info
  refine wpList_buildSlice hg 22 35 1 #[(0, x)] ho xd ie _ Tryz.underlying22 h0 h1 (by rw [h2]; omega) (by rw [h2]; omega) ?_ h
  rw [h2]
  simp only [List.map_toArray, List.map_cons, List.map_nil, hx]
  exact fill_one xd hx2
theorem wp_appR {ops : Array Oper} {rest : List Oper} {o : Oper} {a : Act} {Q : Exit → Act → World → Prop} (W : World) (hgd : o.guard = none) (s x : Operand)
    (ho : o.op = .call { callee := .builtin .append, args := #[s, x], argTypes := #[22, 22] })
    (B : Nat) (v : Value) (n : Nat) (xs : List Value) (xd : Array Value) (hx32 : xd.size = 32) (hone : xd.all (·.oneCell') = true) (hs : a.eval s = v) (hown : W.ownsRow B 35 32 v n xs)
    (hx : a.eval x = .slice (some ⟨W.heap.size, 0, none⟩) 1 1) (hn : n < 1000) (hB : B ≤ W.heap.size)
    (h : ∀ v' w', w'.ownsRow B 35 32 v' (n + 1) (xs ++ xd.toList) → Below B W w' → wpList Tryz.prog ops Q rest (a.put o.dst v') w') :
    wpList Tryz.prog ops Q (o :: rest) a (W.alloc (.cells xd 35)) := by
  obtain ⟨i0, hi, hz0, hz1, hz2⟩ := info_parts d32_info
  have hnb := heap_alloc_new W (.cells xd 35)
  refine wpList_append_own _ hgd s x 22 ho B 35 i0 (.agg (zeros 32)) 32 32 Tryz.underlying22 hi hz0 hz1 hz2 (by simp [Value.cells, zeros]) (by decide) v n xs hs (World.ownsRow.alloc hown _) ⟨W.heap.size, 0, none⟩ 1 1
    xd.toList hx (by rw [Array.length_toList]; omega) ?_ ?_ (by unfold maxLen; omega) (by omega) (by simp; omega) ?_
  · intro j u hj
    have e : (⟨W.heap.size, 0, none⟩ : Addr).add j = ⟨W.heap.size, j, none⟩ := by unfold Addr.add; split <;> simp_all
    rw [e, blk_cell hnb j]
    simpa using hj
  · intro u hu
    exact (Array.all_eq_true_iff_forall_mem.1 hone) u (by simpa using hu)
  · intro v' w1 hown' hg _
    exact h v' w1 hown' (((Below.refl B W).alloc hB _).grown hg (by simp; omega) (fun k hk => (World.ownsRow.lt hown k hk).1))
theorem pth_endE {w W : World} {n : Nat} {ls : Nat → List Nat} {v : Value} {t : TypeId} (h : W.ownsRow w.heap.size t 32 v n (flatD ls n)) (hb : Below w.heap.size w W) (hd : ∀ k, IsDig (ls k)) : PthTo w n ls (.returned v) W := by
  by_cases hn : 0 < n
  · obtain ⟨g, cap, hv, hg, hgl, hc, hm, hx⟩ := own_at h hn
    refine ⟨_, cap, by rw [hv], hc, ⟨fun _ => ⟨g, 0, rfl, hgl, fun k hk j u hu => ?_⟩, hd⟩, hb, fun ad e => by injection e with e; subst e; exact hg⟩
    have hj : j < 32 := by have := (List.getElem?_eq_some_iff.1 hu).1; simpa [rowV_size] using this
    rw [show 0 + k * 32 + j = k * 32 + j by omega]
    exact hx _ _ ((flatD_at ls k j hj n hk).trans hu)
  · obtain rfl : n = 0 := by omega
    obtain ⟨h1, h2⟩ := h
    rcases h2 with ⟨h2, _⟩ | ⟨g, cap, cur, hv, hbg, hh, hnc, hm, _⟩
    · exact ⟨none, 0, by rw [h2], Nat.le_refl _, ⟨fun c => by omega, hd⟩, hb, fun ad e => by cases e⟩
    · exact ⟨_, cap, by rw [hv], Nat.zero_le _, ⟨fun c => by omega, hd⟩, hb, fun ad e => by injection e with e; subst e; exact hbg⟩
def rsF (nl : Nat) (ls : Nat → List Nat) (k d : Nat) : List Nat := treeAt (mixX nl ls) d (bsN (k / 2 ^ d))
set_option maxHeartbeats 4000000 in
theorem rpath_any (nl cl k : Nat) (A : Option Addr) (ls : Nat → List Nat) (hnl : nl ≤ 20) (hcl : nl ≤ cl) (hk : k < nl) (w : World) (h : DgS w A nl ls) :
    Calls Tryz.prog 10 #[.slice A nl cl, .int .i64 (k : Int)] w (PthTo w (dpt nl) (rsF nl ls k)) := by
  have HDG := Lib.hid h
  have HDD : Hid (∀ d, IsDig (rsF nl ls k d)) := Lib.hid (fun d => treeAt_dig (mixX_dig nl h.2) d _)
  have hD := dpt_le nl hnl
  have hkD : k < 2 ^ dpt nl := Nat.lt_of_lt_of_le hk (dpt_pow nl hnl)
  have HKD := Lib.hid hkD
  clear h hkD
  generalize hDE : dpt nl = D at *
  have HDE := Lib.hid hDE
  clear hDE
  go_enter Tryz.func10, Tryz.ntmps10
  go_wp2_with fail
  go_loopg [1, 5, 6] D (fun gk v1 v5 v6 W => ∃ d i : Nat, i = k / 2 ^ d ∧ v1 = .int .i64 (i : Int) ∧ v6 = .int .i64 (d : Int) ∧ d + gk = D ∧ W.ownsRow w.heap.size 35 32 v5 d (flatD (rsF nl ls k) d) ∧ Below w.heap.size w W)
  case atStart => exact ⟨0, k, by rw [Nat.pow_zero, Nat.div_one], rfl, rfl, by omega, World.ownsRow_nil _ _ _ _, Below.refl _ _⟩
  case round =>
    obtain ⟨d, i, hi, rfl, rfl, hgk, hown, hb⟩ := hrel
    have HI := Lib.hid hi
    have HOW := Lib.hid hown
    have HB := Lib.hid hb
    have hi9 : i ≤ 1000000 := by rw [hi]; have : k / 2 ^ d ≤ k := Nat.div_le_self _ _; omega
    clear hown hb hi
    have HDW := Lib.hid (HDG.out.below HB.out)
    by_cases hlt : d < D
    · have hlti : (d : Int) < (D : Int) := by omega
      have hbs : bsN i < 2 ^ (D - d) := by
        have e1 : D - d = (D - d - 1) + 1 := by omega
        rw [e1]
        refine bsN_lt ?_
        rw [← e1, HI.out, Nat.div_lt_iff_lt_mul (Nat.two_pow_pos _), ← Nat.pow_add, show D - d + d = D by omega]
        exact HKD.out
      have hfit : (bsN i + 1) * 2 ^ d ≤ 1024 := by
        have e2 : 2 ^ (D - d) * 2 ^ d = 2 ^ D := by rw [← Nat.pow_add, show D - d + d = D by omega]
        have e3 : 2 ^ D ≤ 2 ^ 5 := Nat.pow_le_pow_right (by omega) hD
        have := Nat.mul_le_mul_right (2 ^ d) (show bsN i + 1 ≤ 2 ^ (D - d) by omega)
        omega
      have HAT := Lib.hid (rat_any nl cl A ls hnl hcl d (bsN i) hfit (by omega) wr HDW.out)
      obtain ⟨xd, hxd⟩ : ∃ z, z = dA (treeAt (mixX nl ls) d (bsN i)) := ⟨_, rfl⟩
      have HX2 : Hid (xd.size = 32) := Lib.hid (by rw [hxd, rowV_size])
      have HO : Hid (xd.all (·.oneCell') = true) := Lib.hid (by rw [hxd]; exact dA_one _)
      have HXD : Hid (flatD (rsF nl ls k) d ++ xd.toList = flatD (rsF nl ls k) (d + 1)) := Lib.hid (by rw [flatD_snoc, hxd]; unfold rsF; rw [← HI.out])
      have HXE := Lib.hid hxd
      have HNX : Hid (i / 2 = k / 2 ^ (d + 1)) := Lib.hid (by rw [HI.out, Nat.pow_succ, Nat.div_div_eq_div_mul])
      obtain ⟨j, hj⟩ : ∃ j, j = bsN i := ⟨_, rfl⟩
      rw [← hj] at HAT HXE
      have HJ := Lib.hid hj
      clear hxd hbs hfit
      rcases Nat.mod_two_eq_zero_or_one i with hm | hm
      · have hij : (i : Int) + 1 = (j : Int) := by
          rw [HJ.out] at *
          unfold bsN at *
          rw [if_neg (by omega)]; omega
        have hmm : ((i : Int) % 2 == 1) = false := by rw [beq_eq_false_iff_ne]; omega
        obtain ⟨i2, hi2⟩ : ∃ i2, i2 = i / 2 := ⟨_, rfl⟩
        have hq2 : (i : Int) / 2 = (i2 : Int) := by omega
        have hq3 : (i : Int).tdiv 2 = (i2 : Int) := by rw [Int.tdiv_eq_ediv_of_nonneg (by omega)]; omega
        have hq4 : IntKind.i64.wrap (i2 : Int) = (i2 : Int) := by unfold IntKind.wrap; simp [IntKind.signed, IntKind.bits]; omega
        have HI2 := Lib.hid hi2
        clear hi2
        clear hj hm
        go_wp2_with fail
        refine (rdepth_any nl hnl _).mono ?_
        rintro e w' ⟨rfl, rfl⟩
        rw [HDE.out]
        go_wp2_with fail
        refine HAT.out.mono ?_
        rintro e w2 ⟨rfl, hb2⟩
        rw [← HXE.out]
        have HB2 := Lib.hid (HB.out.trans (hb2.mono HB.out.size))
        have HOW2 : Hid (w2.ownsRow w.heap.size 35 32 u5 d (flatD (rsF nl ls k) d)) := Lib.hid (own_keepH HOW.out (fun g hg => hb2.block g (World.ownsRow.lt HOW.out g hg).2))
        clear hb2
        go_wp2_with (first
          | (with_reducible refine wpList_build1R rfl (.tmp 26) rfl xd HX2.out (by simp [Act.eval, Act.put]) ?_)
          | (at_builtin; refine wp_appR w2 rfl (.tmp 22) (.tmp 27) rfl w.heap.size u5 d (flatD (rsF nl ls k) d) xd HX2.out HO.out rfl HOW2.out rfl (by omega) HB2.out.size ?_; intro v' w1 hown1 hb1; rw [HXD.out] at hown1; have HOW1 := Lib.hid hown1; have HB1 := Lib.hid (HB2.out.trans hb1); clear hown1 hb1))
        go_roundg (D - (d + 1))
        case measure => omega
        case rel => exact ⟨d + 1, i2, HI2.out.trans HNX.out, by go_num, by go_num, by omega, HOW1.out, HB1.out⟩
      · have hij : (i : Int) - 1 = (j : Int) := by
          rw [HJ.out] at *
          unfold bsN at *
          rw [if_pos hm]; omega
        have hmm : ((i : Int) % 2 == 1) = true := by rw [beq_iff_eq]; omega
        obtain ⟨i2, hi2⟩ : ∃ i2, i2 = i / 2 := ⟨_, rfl⟩
        have hq2 : (i : Int) / 2 = (i2 : Int) := by omega
        have hq3 : (i : Int).tdiv 2 = (i2 : Int) := by rw [Int.tdiv_eq_ediv_of_nonneg (by omega)]; omega
        have hq4 : IntKind.i64.wrap (i2 : Int) = (i2 : Int) := by unfold IntKind.wrap; simp [IntKind.signed, IntKind.bits]; omega
        have HI2 := Lib.hid hi2
        clear hi2
        clear hj hm
        go_wp2_with fail
        refine (rdepth_any nl hnl _).mono ?_
        rintro e w' ⟨rfl, rfl⟩
        rw [HDE.out]
        go_wp2_with fail
        refine HAT.out.mono ?_
        rintro e w2 ⟨rfl, hb2⟩
        rw [← HXE.out]
        have HB2 := Lib.hid (HB.out.trans (hb2.mono HB.out.size))
        have HOW2 : Hid (w2.ownsRow w.heap.size 35 32 u5 d (flatD (rsF nl ls k) d)) := Lib.hid (own_keepH HOW.out (fun g hg => hb2.block g (World.ownsRow.lt HOW.out g hg).2))
        clear hb2
        go_wp2_with (first
          | (with_reducible refine wpList_build1R rfl (.tmp 26) rfl xd HX2.out (by simp [Act.eval, Act.put]) ?_)
          | (at_builtin; refine wp_appR w2 rfl (.tmp 22) (.tmp 27) rfl w.heap.size u5 d (flatD (rsF nl ls k) d) xd HX2.out HO.out rfl HOW2.out rfl (by omega) HB2.out.size ?_; intro v' w1 hown1 hb1; rw [HXD.out] at hown1; have HOW1 := Lib.hid hown1; have HB1 := Lib.hid (HB2.out.trans hb1); clear hown1 hb1))
        go_roundg (D - (d + 1))
        case measure => omega
        case rel => exact ⟨d + 1, i2, HI2.out.trans HNX.out, by go_num, by go_num, by omega, HOW1.out, HB1.out⟩
    · obtain rfl : d = D := by omega
      have HE := Lib.hid (pth_endE HOW.out HB.out HDD.out)
      go_wp2_with fail
      refine (rdepth_any nl hnl _).mono ?_
      rintro e w' ⟨rfl, rfl⟩
      rw [HDE.out]
      go_wp2_with fail
      go_ret
      exact HE.out
end
section
open Go.RowKit Go
set_option linter.unusedVariables false
set_option linter.unusedSimpArgs false
set_option maxRecDepth 100000
theorem tn_none (w : World) : Calls Tryz.prog 32 #[.pointer none] w fun e w' => e = .returned (.bool true) ∧ w = w' := by
  go_enter Tryz.func32, Tryz.ntmps32
  go_wp2
  go_ret
  exact ⟨rfl, rfl⟩
theorem len_nilT (w : World) : Calls Tryz.prog 26 #[.pointer none] w fun e w' => e = .returned (.int .i64 0) ∧ w = w' := by
  go_enter Tryz.func26, Tryz.ntmps26
  go_wp2_with fail
  refine (tn_none _).mono ?_
  rintro e w' ⟨rfl, rfl⟩
  go_wp2
  go_ret
  exact ⟨rfl, rfl⟩
theorem has_nilT (k : Int) (w : World) : Calls Tryz.prog 20 #[.pointer none, .int .i64 k] w fun e w' => e = .returned (.bool false) ∧ w = w' := by
  go_enter Tryz.func20, Tryz.ntmps20
  by_cases h : 0 ≤ k
  · go_wp2_with fail
    refine (len_nilT _).mono ?_
    rintro e w' ⟨rfl, rfl⟩
    go_wp2
    go_ret
    exact ⟨ret_bool (by simp; try omega), rfl⟩
  · go_wp2
    go_ret
    exact ⟨rfl, rfl⟩
theorem path_nilT (k : Int) (w : World) : Calls Tryz.prog 8 #[.pointer none, .int .i64 k] w fun e w' => e = .returned (.slice none 0 0) ∧ w = w' := by
  go_enter Tryz.func8, Tryz.ntmps8
  go_wp2_with fail
  refine (has_nilT k _).mono ?_
  rintro e w' ⟨rfl, rfl⟩
  go_wp2
  go_ret
  exact ⟨rfl, rfl⟩
theorem dpt_X {n : Nat} (h : n ≤ 20) : dpt n = dpX n := by unfold dpt dpX; repeat' split <;> try omega
set_option maxHeartbeats 8000000 in
theorem treePath_20 (n0 n c : Nat) (A : Option Addr) (ls : Nat → List Nat) (k : Int) (w : World) (hfew : Calls Tryz.prog 4 #[.slice A n0 c] w fun e w' => e = .returned (.slice A n c) ∧ w = w') (hds : DgS w A n ls) (hn : n ≤ 20) (hc : n ≤ c) (hkb : k ≤ 9223372036854775807) :
    Calls Tryz.prog 3 #[.slice A n0 c, .int .i64 k] w fun e w' => e = .returned (.bool true) ∧ Below w.heap.size w w' := by
  have HFEW := Lib.hid hfew
  have HDS := Lib.hid hds
  have hz := zero_dig
  clear hfew hds
  go_enter Tryz.func3, Tryz.ntmps3
  go_wp2_with fail
  refine HFEW.out.mono ?_
  rintro e w' ⟨rfl, rfl⟩
  go_wp2_with fail
  refine (book12_any _).mono ?_
  rintro e w1 ⟨b, g, S, rfl, hbk, hS, hb1⟩
  have HBK := Lib.hid hbk
  have HS := Lib.hid hS
  have HB1 := Lib.hid hb1
  clear hbk hS hb1
  go_wp2_with fail
  refine (digests_any n c A ls w1 (HDS.out.below HB1.out) hn).mono ?_
  rintro e w2 ⟨A2, c2, rfl, hc2, hd2, hb2⟩
  have HD2 := Lib.hid hd2
  have HB2 : Hid (Below w.heap.size w w2) := Lib.hid (HB1.out.trans (hb2.mono HB1.out.size))
  have HBK2 := Lib.hid (HBK.out.below hb2)
  clear hd2 hb2
  by_cases hn0 : n = 0
  · subst hn0
    go_wp2_with fail
    refine (tnew_zero b c2 A2 _).mono ?_
    rintro e w3 ⟨rfl, rfl⟩
    go_wp2_with fail
    refine (path_nilT k _).mono ?_
    rintro e w4 ⟨rfl, rfl⟩
    go_wp2_with fail
    refine (awake12_any _).mono ?_
    rintro e w5 ⟨rfl, hb5⟩
    have HB5 := Lib.hid (HB2.out.trans (hb5.mono HB2.out.size))
    clear hb5
    go_wp2
    go_ret
    exact ⟨rfl, HB5.out⟩
  · have hn1 : 1 ≤ n := by omega
    have hnp : (0 : Int) < (n : Int) := by omega
    have hnp2 : 0 < n := by omega
    have HNEW := Lib.hid (tnew_any b g n c2 A2 ls S [] [] w2 HBK2.out HD2.out hn1 hn hc2)
    go_wp2_with fail
    refine HNEW.out.mono ?_
    rintro e w3 ⟨T, lb, cap, q, F, S', Tx, sh, rfl, htr, hrr, hf0, hbk6, hs6, hap6, ht6⟩
    have HFT : Hid (∀ d i, d ≤ dpt n → i < 2 ^ (dpt n - d) → F d i = treeAt (mixX n ls) d i) := Lib.hid (right_tree hrr hf0)
    have HTR := Lib.hid htr
    have HRR := Lib.hid hrr
    have HF0 := Lib.hid hf0
    have HBK3 := Lib.hid hbk6
    have HS2 : Hid (∀ j, S' j → w.heap.size ≤ j) := Lib.hid (fun j hj => by
      rcases hs6 j hj with x | x
      · exact HS.out j x
      · have := HB2.out.size; omega)
    have HAPT : Hid (∀ j, trS T lb (dpt n) q j → ¬ S' j) := Lib.hid (fun j hj => (hap6 j hj).1)
    have HBW3 : Hid (Below w.heap.size w w3) := Lib.hid (HB2.out.trans (ht6.below HB2.out.size (fun j hj => HS.out j hj)))
    clear htr hrr hf0 hbk6 hs6 hap6 ht6 HNEW
    by_cases hin : (0 : Int) ≤ k ∧ k < (n : Int)
    · obtain ⟨kn, rfl⟩ : ∃ i : Nat, k = (i : Int) := ⟨k.toNat, by omega⟩
      have hk : kn < n := by omega
      have hk2 : ¬ n ≤ kn := by omega
      have hk0 : ¬ (kn : Int) < 0 := by omega
      have hk1 : ¬ (n : Int) ≤ (kn : Int) := by omega
      clear hin
      go_wp2_with fail
      refine (tpath_any T b n (dpt n) lb cap kn q F w3 HTR.out hk (by omega)).mono ?_
      rintro e w4 ⟨A8, c8, rfl, hc8, hd8, hb8, hnew8⟩
      have HD8 := Lib.hid hd8
      have HB8 := Lib.hid hb8
      have HN8 := Lib.hid hnew8
      have HBW4 := Lib.hid (HBW3.out.trans (hb8.mono HBW3.out.size))
      clear hd8 hb8 hnew8
      go_wp2_with fail
      refine (rpath_any n c kn A ls hn hc hk w4 (HDS.out.below HBW4.out)).mono ?_
      rintro e w5 ⟨A9, c9, rfl, hc9, hd9, hb9, hnew9⟩
      have HD9 := Lib.hid hd9
      have HB9 := Lib.hid hb9
      have HBW5 := Lib.hid (HBW4.out.trans (hb9.mono HBW4.out.size))
      have HD85 := Lib.hid (HD8.out.below hb9)
      clear hd9 hb9 hnew9
      have HDX : Hid (dpt n = dpX n) := Lib.hid (dpt_X hn)
      have HD5 : Hid (dpt n ≤ 5) := Lib.hid (dpt_le n hn)
      have HKD : Hid (kn < 2 ^ dpt n) := Lib.hid (Nat.lt_of_lt_of_le hk (dpt_pow n hn))
      generalize dpt n = D at *
      have hD5 := HD5.out
      have HEQ : Hid (∀ i, i < D → psF F kn i = rsF n ls kn i) := Lib.hid (fun i hi => by
        unfold psF rsF
        refine HFT.out i _ (by omega) ?_
        have e1 : D - i = (D - i - 1) + 1 := by omega
        rw [e1]
        refine bsN_lt ?_
        rw [← e1, Nat.div_lt_iff_lt_mul (Nat.two_pow_pos _), ← Nat.pow_add, show D - i + i = D by omega]
        exact HKD.out)
      go_wp2_with fail
      go_loopw [62] (fun iv wr => ∃ i : Nat, iv = .int .i64 (i : Int) ∧ i ≤ D ∧ Below w5.heap.size w5 wr) (fun iv _ => (D - intOf iv).toNat)
      case atStart => exact ⟨0, rfl, by omega, Below.refl _ _⟩
      case round =>
        obtain ⟨i, rfl, hi, hb⟩ := hrel
        have HB := Lib.hid hb
        clear hb
        by_cases hlt : i < D
        · have hlti : (i : Int) < (D : Int) := by omega
          obtain ⟨b8, o8, rfl, hl8, hr8⟩ := HD85.out.1 (by omega)
          obtain ⟨b9, o9, rfl, hl9, hr9⟩ := HD9.out.1 (by omega)
          obtain ⟨xd, hxd⟩ : ∃ z, z = dA (psF F kn i) := ⟨_, rfl⟩
          have hx2 : xd.size = 32 := by rw [hxd, rowV_size]
          have HX2 := Lib.hid hx2
          have HIK := Lib.hid (info_dig hx2)
          have HIK2 := Lib.hid (info_d32 hx2)
          have hg8 := hr8 i hlt
          have hg9 := hr9 i hlt
          rw [← hxd] at hg8
          rw [← HEQ.out i hlt, ← hxd] at hg9
          have HK : Hid (∀ W, Below wr.heap.size wr W → W.rangeAt b8 (o8 + i * 32) xd.toList ∧ W.rangeAt b9 (o9 + i * 32) xd.toList) := Lib.hid (fun W h => by
            have h2 := HB.out.trans (h.mono HB.out.size)
            exact ⟨range_of (h2.block b8 hl8) hg8, range_of (h2.block b9 hl9) hg9⟩)
          have hdg : IsDig (psF F kn i) := HD85.out.2 i
          have HNE : Hid (∀ W, (binOp .neq 36 (.agg xd) (.agg xd)).run Tryz.prog W = .ok (.bool false) W) := Lib.hid (fun W => by
            have h := equal_row 36 32 Tryz.underlying36 (psF F kn i) (psF F kn i) hdg.1 hdg.1 W
            rw [hxd]
            simp [binOp, Op.equal, Op.maxDepth, h, Result.andThen])
          have HBD := Lib.hid HB.out.drew
          clear hxd hx2 hg8 hg9 hr8 hr9 hdg
          go_upto_region 13 with (fail)
          refine wp_region_F (S := fun (W : World) => W.rangeAt b8 (o8 + i * 32) xd.toList ∧ W.rangeAt b9 (o9 + i * 32) xd.toList) [] (by kernel_rfl) (HK.out _ ((Below.refl _ _).drew)) (fun hHeld => ?_)
          refine wpAnyF_take (i := 0) (oi := _) (v := ?_) rfl (by kernel_rfl) (by kernel_rfl) (by kernel_rfl) (by kernel_rfl) (fun _ _ _ h => h) (Or.inl ⟨by rfl, ?_⟩) (by assumption) ?_
          rotate_left 1
          · intro w hSw
            (try dsimp only at hSw)
            (first | (go_simp; done) | (go_simp; with_reducible rfl))
          (try simp only [Act.put, List.getElem_toArray, List.getElem_cons_succ, List.getElem_cons_zero, List.setIfInBounds_toArray, List.set_cons_zero, List.set_cons_succ])
          refine wpAnyF_take (i := 1) (oi := _) (v := ?_) rfl (by kernel_rfl) (by kernel_rfl) (by kernel_rfl) (by kernel_rfl) (fun _ _ _ h => h) (Or.inl ⟨by rfl, ?_⟩) (by assumption) ?_
          rotate_left 1
          · intro w hSw
            (try dsimp only at hSw)
            (first | (go_simp; done) | (go_simp; with_reducible rfl))
          (try simp only [Act.put, List.getElem_toArray, List.getElem_cons_succ, List.getElem_cons_zero, List.setIfInBounds_toArray, List.set_cons_zero, List.set_cons_succ])
          refine wpAnyF_take (i := 2) (oi := _) (v := ?_) rfl (by kernel_rfl) (by kernel_rfl) (by kernel_rfl) (by kernel_rfl) (fun _ _ _ h => h) (Or.inl ⟨by rfl, ?_⟩) (by assumption) ?_
          rotate_left 1
          · intro w hSw
            (try dsimp only at hSw)
            (first | (go_simp; done) | (go_simp; with_reducible rfl))
          (try simp only [Act.put, List.getElem_toArray, List.getElem_cons_succ, List.getElem_cons_zero, List.setIfInBounds_toArray, List.set_cons_zero, List.set_cons_succ])
          refine wpAnyF_take (i := 3) (oi := _) (v := _) rfl (by kernel_rfl) (by kernel_rfl) (by kernel_rfl) (by kernel_rfl) (fun _ _ _ h => h) (yields_rowU (by rfl) 36 (.tmp 67) rfl b8 (o8 + i * 32) rfl xd _ (fun W h => h.1) Tryz.underlying36 rfl HIK.out) (by assumption) ?_
          (try simp only [Act.put, List.getElem_toArray, List.getElem_cons_succ, List.getElem_cons_zero, List.setIfInBounds_toArray, List.set_cons_zero, List.set_cons_succ])
          refine wpAnyF_take (i := 4) (oi := _) (v := ?_) rfl (by kernel_rfl) (by kernel_rfl) (by kernel_rfl) (by kernel_rfl) (fun _ _ _ h => h) (Or.inl ⟨by rfl, ?_⟩) (by assumption) ?_
          rotate_left 1
          · intro w hSw
            (try dsimp only at hSw)
            (first | (go_simp; done) | (go_simp; with_reducible rfl))
          (try simp only [Act.put, List.getElem_toArray, List.getElem_cons_succ, List.getElem_cons_zero, List.setIfInBounds_toArray, List.set_cons_zero, List.set_cons_succ])
          refine wpAnyF_take (i := 5) (oi := _) (v := ?_) rfl (by kernel_rfl) (by kernel_rfl) (by kernel_rfl) (by kernel_rfl) (fun _ _ _ h => h) (Or.inl ⟨by rfl, ?_⟩) (by assumption) ?_
          rotate_left 1
          · intro w hSw
            (try dsimp only at hSw)
            (first | (go_simp; done) | (go_simp; with_reducible rfl))
          (try simp only [Act.put, List.getElem_toArray, List.getElem_cons_succ, List.getElem_cons_zero, List.setIfInBounds_toArray, List.set_cons_zero, List.set_cons_succ])
          refine wpAnyF_take (i := 6) (oi := _) (v := ?_) rfl (by kernel_rfl) (by kernel_rfl) (by kernel_rfl) (by kernel_rfl) (fun _ _ _ h => h) (Or.inl ⟨by rfl, ?_⟩) (by assumption) ?_
          rotate_left 1
          · intro w hSw
            (try dsimp only at hSw)
            (first | (go_simp; done) | (go_simp; with_reducible rfl))
          (try simp only [Act.put, List.getElem_toArray, List.getElem_cons_succ, List.getElem_cons_zero, List.setIfInBounds_toArray, List.set_cons_zero, List.set_cons_succ])
          refine wpAnyF_take (i := 7) (oi := _) (v := _) rfl (by kernel_rfl) (by kernel_rfl) (by kernel_rfl) (by kernel_rfl) (fun _ _ _ h => h) (yields_rowU (by rfl) 35 (.tmp 71) rfl b9 (o9 + i * 32) rfl xd _ (fun W h => h.2) Tryz.underlying35 rfl HIK2.out) (by assumption) ?_
          (try simp only [Act.put, List.getElem_toArray, List.getElem_cons_succ, List.getElem_cons_zero, List.setIfInBounds_toArray, List.set_cons_zero, List.set_cons_succ])
          refine wpAnyF_take (i := 8) (oi := _) (v := _) rfl (by kernel_rfl) (by kernel_rfl) (by kernel_rfl) (by kernel_rfl) (fun _ _ _ h => h) (.inl ⟨by with_unfolding_all rfl, fun w h => exec_bin .neq 36 36 (.tmp 68) (.tmp 72) rfl (.agg xd) (.agg xd) (.bool false) rfl rfl (bk_guard_ne _ _ _ _ _) (HNE.out w)⟩) (by assumption) ?_
          (try simp only [Act.put, List.getElem_toArray, List.getElem_cons_succ, List.getElem_cons_zero, List.setIfInBounds_toArray, List.set_cons_zero, List.set_cons_succ])
          refine wpAnyF_done (by kernel_rfl) ?_ _
          clear hHeld
          go_wp2_with fail
          go_roundw
          case rel => exact ⟨i + 1, by go_num, by omega, HBD.out⟩
          case measure => simp [intOf]; omega
        · obtain rfl : i = D := by omega
          have hw35 : Below w3.heap.size w3 w5 := HB8.out.trans (HB9.out.mono HB8.out.size)
          have hw3r : Below w3.heap.size w3 wr := hw35.trans (HB.out.mono hw35.size)
          have HTR6 := Lib.hid (HTR.out.next hw3r)
          have HBK6 := Lib.hid (HBK3.out.below hw3r)
          have HD6 := Lib.hid (HD85.out.below HB.out)
          have HW3R := Lib.hid hw3r
          have HLK : Hid (leafK n ls (kn : Int) = ls kn) := Lib.hid (by unfold leafK; rw [if_pos ⟨by omega, by omega⟩, Int.toNat_natCast])
          clear hw35 hw3r
          go_wp2_with fail
          refine (tat_any T b n i lb cap (kn : Int) ls q F wr HTR6.out HF0.out hkb).mono ?_
          rintro e w6 ⟨rfl, hb6⟩
          rw [HLK.out]
          have HB6 := Lib.hid hb6
          have HTR7 := Lib.hid (HTR6.out.next hb6)
          have HBK7 := Lib.hid (HBK6.out.below hb6)
          have HD7 := Lib.hid (HD6.out.below hb6)
          have HBW6 : Hid (Below w.heap.size w w6) := Lib.hid ((HBW5.out.trans (HB.out.mono HBW5.out.size)).trans (hb6.mono (HBW5.out.trans (HB.out.mono HBW5.out.size)).size))
          have HW36 : Hid (Below w3.heap.size w3 w6) := Lib.hid (HW3R.out.trans (hb6.mono HW3R.out.size))
          clear hb6
          have HUP := Lib.hid (tup_yes b g n kn i c8 (ls kn) A8 (psF F kn) S' Tx sh w6 HBK7.out HD7.out (fun ad ha hs => by
            have h1 := HN8.out ad ha
            have h2 := HBK3.out.sub hs
            omega) hn1 (by omega) hk HDX.out hc8 (HDS.out.2 kn))
          have HUF : Hid (upS kn (ls kn) (psF F kn) i = F i 0) := Lib.hid (by
            have h1 := up_tree HRR.out HKD.out i (Nat.le_refl _)
            have h2 : F 0 kn = ls kn := by rw [HF0.out kn HKD.out]; unfold mixX; rw [if_pos hk]
            rw [h2, Nat.div_eq_of_lt HKD.out] at h1
            exact h1)
          rw [HUF.out] at HUP
          obtain ⟨da, hda⟩ : ∃ da, da = digA (txt 2 [putL 4 n, F i 0]) := ⟨_, rfl⟩
          have HDA := Lib.hid hda
          have hx2 : da.size = 32 := by rw [hda, digA_dA, rowV_size]
          have HI := Lib.hid (info_dig hx2)
          have HO : Hid (da.all (·.oneCell') = true) := Lib.hid (by rw [hda, digA_dA]; exact dA_one _)
          have HZ : Hid ((zeros 32).size = da.size) := Lib.hid (by rw [hx2]; simp [zeros])
          have HEQ2 : Hid (∀ W, (binOp .eql 36 (.agg da) (.agg da)).run Tryz.prog W = .ok (.bool true) W) := Lib.hid (fun W => by rw [hda, bk_dig_eq]; simp)
          clear hda hx2
          go_wp2_with fail
          refine HUP.out.mono ?_
          rintro e w7 ⟨rfl, ht7, S2, Tx2, sh2, hbk7, hs7⟩
          rw [← HDA.out]
          have HO8 := Lib.hid (heap_alloc_new w7 (.cells (zeros 32) 36))
          obtain ⟨WX, hWX⟩ : ∃ WX, WX = (w7.alloc (.cells (zeros 32) 36)).setRow w7.heap.size da := ⟨_, rfl⟩
          have hbx : Below w7.heap.size w7 WX := by rw [hWX]; exact below_setRow (g := w7.heap.size) ((Below.refl _ _).alloc (Nat.le_refl _) _) (Nat.le_refl _) da
          obtain ⟨x, hx⟩ : ∃ x, x = w7.heap.size := ⟨_, rfl⟩
          have HPX : Hid (WX.heap[x]? = some (.cells da 36 (0, 0))) := Lib.hid (by rw [hWX, hx]; exact setRow_heap _ _ _ da _ _ HO8.out)
          have HBX := Lib.hid hbx
          have htr8 : TrB w7 T b n i lb cap q F := HTR7.out.keep ht7 HAPT.out
          have HTRX := Lib.hid (htr8.next hbx)
          have HBKX := Lib.hid (hbk7.below hbx)
          have HS2B : Hid (∀ j, S2 j → w.heap.size ≤ j) := Lib.hid (fun j hj => by
            rcases hs7 j hj with y | y
            · exact HS2.out j y
            · have := HBW6.out.size; omega)
          have HT2 : Hid (¬ S2 T) := Lib.hid (fun hj => by
            rcases hs7 T hj with y | y
            · exact HAPT.out T (.inl rfl) y
            · have h1 := HTR.out.lt (.inl rfl : trS T lb i q T)
              have := HW36.out.size; omega)
          have HXN : Hid (¬ S2 x) := Lib.hid (fun hj => by have := hbk7.sub hj; omega)
          have HBW7 : Hid (Below w.heap.size w WX) := Lib.hid (by
            have h1 : Below w.heap.size w w7 := HBW6.out.trans (ht7.below HBW6.out.size HS2.out)
            exact h1.trans (hbx.mono h1.size))
          have HWX := Lib.hid hWX
          have HXE := Lib.hid hx
          clear ht7 hbk7 hs7 hWX hbx hx htr8
          go_upto_region 17 with (with_reducible refine wpList_store_row rfl 36 (.tmp 11) (.tmp 85) rfl _ _ rfl (by simp [Act.eval, Act.put]) 36 _ HO8.out HI.out HZ.out HO.out ?_)
          rw [← HWX.out, ← HXE.out]
          clear HO8
          refine wp_region_F (S := fun (W : World) => W.heap[x]? = some (.cells da 36 (0, 0))) [] (by kernel_rfl) (HPX.out) (fun hHeld => ?_)
          refine wpAnyF_take (i := 0) (oi := _) (v := ?_) rfl (by kernel_rfl) (by kernel_rfl) (by kernel_rfl) (by kernel_rfl) (fun _ _ _ h => h) (Or.inl ⟨by rfl, ?_⟩) (by assumption) ?_
          rotate_left 1
          · intro w hSw
            (try dsimp only at hSw)
            (first | (go_simp; done) | (go_simp; with_reducible rfl))
          (try simp only [Act.put, List.getElem_toArray, List.getElem_cons_succ, List.getElem_cons_zero, List.setIfInBounds_toArray, List.set_cons_zero, List.set_cons_succ])
          refine wpAnyF_take (i := 1) (oi := _) (v := ?_) rfl (by kernel_rfl) (by kernel_rfl) (by kernel_rfl) (by kernel_rfl) (fun _ _ _ h => h) (Or.inl ⟨by rfl, ?_⟩) (by assumption) ?_
          rotate_left 1
          · intro w hSw
            (try dsimp only at hSw)
            (first | (go_simp; done) | (go_simp; with_reducible rfl))
          (try simp only [Act.put, List.getElem_toArray, List.getElem_cons_succ, List.getElem_cons_zero, List.setIfInBounds_toArray, List.set_cons_zero, List.set_cons_succ])
          refine wpAnyF_take (i := 2) (oi := _) (v := ?_) rfl (by kernel_rfl) (by kernel_rfl) (by kernel_rfl) (by kernel_rfl) (fun _ _ _ h => h) (Or.inl ⟨by rfl, ?_⟩) (by assumption) ?_
          rotate_left 1
          · intro w hSw
            (try dsimp only at hSw)
            (first | (go_simp; done) | (go_simp; with_reducible rfl))
          (try simp only [Act.put, List.getElem_toArray, List.getElem_cons_succ, List.getElem_cons_zero, List.setIfInBounds_toArray, List.set_cons_zero, List.set_cons_succ])
          refine wpAnyF_take (i := 3) (oi := _) (v := _) rfl (by kernel_rfl) (by kernel_rfl) (by kernel_rfl) (by kernel_rfl) (fun _ _ _ h => h) (yields_rowU (by with_unfolding_all rfl) 36 (.tmp 11) rfl x 0 rfl da _ (fun W h => range_cells h) Tryz.underlying36 rfl HI.out) (by assumption) ?_
          (try simp only [Act.put, List.getElem_toArray, List.getElem_cons_succ, List.getElem_cons_zero, List.setIfInBounds_toArray, List.set_cons_zero, List.set_cons_succ])
          refine wpAnyF_take (i := 4) (oi := _) (v := ?_) rfl (by kernel_rfl) (by kernel_rfl) (by kernel_rfl) (by kernel_rfl) (fun _ _ _ h => h) (Or.inl ⟨by rfl, ?_⟩) (by assumption) ?_
          rotate_left 1
          · intro w hSw
            (try dsimp only at hSw)
            (first | (go_simp; done) | (go_simp; with_reducible rfl))
          (try simp only [Act.put, List.getElem_toArray, List.getElem_cons_succ, List.getElem_cons_zero, List.setIfInBounds_toArray, List.set_cons_zero, List.set_cons_succ])
          refine wpAnyF_ready (rs := [5]) (by kernel_rfl) (by simp) ?_
          refine AllReadyF.cons (o := _) rfl (fun K hK => ?_) AllReadyF.nil
          go_simp
          (go_at_call 13)
          refine (troot_m T b g n i lb cap q F S2 Tx2 sh2 WX.drew (HTRX.out.next ((Below.refl _ _).drew)) (HBKX.out.below ((Below.refl _ _).drew)) HT2.out (by omega)).mono ?_
          intro e w9 hsum
          have HT9 := Lib.hid hsum.2.1
          have he := hsum.1
          subst he
          rw [← HDA.out]
          clear hsum
          have HBW9 : Hid (Below w.heap.size w w9) := Lib.hid (HBW7.out.drew.trans (Turns.below HT9.out HBW7.out.size HS2B.out))
          have HP9 : Hid (w9.heap[x]? = some (.cells da 36 (0, 0))) := Lib.hid ((HT9.out.block _ (blk_lt HPX.out) HXN.out).trans HPX.out)
          refine hK.out _ _ (HP9.out) (fun hHeld5 => ?_)
          clear hK K
          (try simp only [Act.put, List.getElem_toArray, List.getElem_cons_succ, List.getElem_cons_zero, List.setIfInBounds_toArray, List.set_cons_zero, List.set_cons_succ])
          refine wpAnyF_take (i := 6) (oi := _) (v := _) rfl (by kernel_rfl) (by kernel_rfl) (by kernel_rfl) (by kernel_rfl) (fun _ _ _ h => h) (.inl ⟨by with_unfolding_all rfl, fun w h => exec_bin .eql 36 36 (.tmp 90) (.tmp 92) rfl (.agg da) (.agg da) (.bool true) rfl rfl (bk_guard _ _ _ _ _) (HEQ2.out w)⟩) (by assumption) ?_
          (try simp only [Act.put, List.getElem_toArray, List.getElem_cons_succ, List.getElem_cons_zero, List.setIfInBounds_toArray, List.set_cons_zero, List.set_cons_succ])
          refine wpAnyF_take (i := 7) (oi := _) (v := ?_) rfl (by kernel_rfl) (by kernel_rfl) (by kernel_rfl) (by kernel_rfl) (fun _ _ _ h => h) (Or.inl ⟨by rfl, ?_⟩) (by assumption) ?_
          rotate_left 1
          · intro w hSw
            (try dsimp only at hSw)
            (first | (go_simp; done) | (go_simp; with_reducible rfl))
          (try simp only [Act.put, List.getElem_toArray, List.getElem_cons_succ, List.getElem_cons_zero, List.setIfInBounds_toArray, List.set_cons_zero, List.set_cons_succ])
          refine wpAnyF_take (i := 8) (oi := _) (v := ?_) rfl (by kernel_rfl) (by kernel_rfl) (by kernel_rfl) (by kernel_rfl) (fun _ _ _ h => h) (Or.inl ⟨by rfl, ?_⟩) (by assumption) ?_
          rotate_left 1
          · intro w hSw
            (try dsimp only at hSw)
            (first | (go_simp; done) | (go_simp; with_reducible rfl))
          (try simp only [Act.put, List.getElem_toArray, List.getElem_cons_succ, List.getElem_cons_zero, List.setIfInBounds_toArray, List.set_cons_zero, List.set_cons_succ])
          refine wpAnyF_ready (rs := [9]) (by kernel_rfl) (by simp) ?_
          refine AllReadyF.cons (o := _) rfl (fun K hK => ?_) AllReadyF.nil
          go_simp
          (go_at_call 9)
          refine (awake12_any _).mono ?_
          rintro e wz ⟨rfl, hbz⟩
          have HBZ := Lib.hid (HBW9.out.trans (hbz.mono HBW9.out.size))
          have HPZ := Lib.hid ((hbz.block _ (blk_lt HP9.out)).trans HP9.out)
          clear hbz
          refine hK.out _ _ (HPZ.out) (fun hHeld9 => ?_)
          clear hK K
          (try simp only [Act.put, List.getElem_toArray, List.getElem_cons_succ, List.getElem_cons_zero, List.setIfInBounds_toArray, List.set_cons_zero, List.set_cons_succ])
          refine wpAnyF_take (i := 10) (oi := _) (v := ?_) rfl (by kernel_rfl) (by kernel_rfl) (by kernel_rfl) (by kernel_rfl) (fun _ _ _ h => h) (Or.inl ⟨by rfl, ?_⟩) (by assumption) ?_
          rotate_left 1
          · intro w hSw
            (try dsimp only at hSw)
            (first | (go_simp; done) | (go_simp; with_reducible rfl))
          (try simp only [Act.put, List.getElem_toArray, List.getElem_cons_succ, List.getElem_cons_zero, List.setIfInBounds_toArray, List.set_cons_zero, List.set_cons_succ])
          refine wpAnyF_take (i := 11) (oi := _) (v := ?_) rfl (by kernel_rfl) (by kernel_rfl) (by kernel_rfl) (by kernel_rfl) (fun _ _ _ h => h) (Or.inl ⟨by rfl, ?_⟩) (by assumption) ?_
          rotate_left 1
          · intro w hSw
            (try dsimp only at hSw)
            (first | (go_simp; done) | (go_simp; with_reducible rfl))
          (try simp only [Act.put, List.getElem_toArray, List.getElem_cons_succ, List.getElem_cons_zero, List.setIfInBounds_toArray, List.set_cons_zero, List.set_cons_succ])
          refine wpAnyF_done (by kernel_rfl) ?_ _
          clear hHeld hHeld5 hHeld9
          go_wp2
          go_ret
          exact ⟨rfl, HBZ.out⟩
    · skip
      by_cases hneg : k < 0
      · go_wp2_with fail
        refine (tpath_out T b n (dpt n) lb cap k q F w3 HTR.out hin).mono ?_
        rintro e w4 ⟨rfl, rfl⟩
        go_wp2_with fail
        refine (awake12_any _).mono ?_
        rintro e w5 ⟨rfl, hb5⟩
        have HB5 := Lib.hid (HBW3.out.trans (hb5.mono HBW3.out.size))
        clear hb5
        go_wp2
        go_ret
        exact ⟨rfl, HB5.out⟩
      · have hge : (n : Int) ≤ k := by omega
        go_wp2_with fail
        refine (tpath_out T b n (dpt n) lb cap k q F w3 HTR.out hin).mono ?_
        rintro e w4 ⟨rfl, rfl⟩
        go_wp2_with fail
        refine (awake12_any _).mono ?_
        rintro e w5 ⟨rfl, hb5⟩
        have HB5 := Lib.hid (HBW3.out.trans (hb5.mono HBW3.out.size))
        clear hb5
        go_wp2
        go_ret
        exact ⟨rfl, HB5.out⟩
theorem treePath_any (n c : Nat) (A : Option Addr) (ls : Nat → List Nat) (k : Int) (w : World) (hds : DgS w A n ls) (hc : n ≤ c) (hc9 : c ≤ 9223372036854775807) (hkb : k ≤ 9223372036854775807) :
    Calls Tryz.prog 3 #[.slice A n c, .int .i64 k] w fun e w' => e = .returned (.bool true) ∧ Below w.heap.size w w' := by
  by_cases hn : n ≤ 20
  · exact treePath_20 n n c A ls k w (few_small n c A w hn) hds hn hc hkb
  · obtain ⟨b, o, rfl, h1, h2⟩ := hds.1 (by omega)
    refine treePath_20 n 20 c (some ⟨b, o, none⟩) ls k w (few_big n c b o w (by omega) hc hc9) ⟨fun _ => ⟨b, o, rfl, h1, fun j hj => h2 j (by omega)⟩, hds.2⟩ (by omega) (by omega) hkb
end
end Go.Proofs.YtehdfbmkckillaaGreat
