/-
  Joined: TwT, TwU, TwW, TwX, TwD2, TwP, TwQ, TwR, Open.
-/
import Derived.Test.YtogipflmnnmhiaaTwZ5
import Derived.WalkKit
import Derived.ProofKit
import Derived.OpenShut
import Derived.Deep.Slices
import Derived.Deep.Fields
import Derived.ChangeSame
import Derived.Lib.Tables
import Derived.Test.YtogipflmnnmhiaaByt
namespace Go.Proofs.Ytogipflmnnmhiaa
set_option maxRecDepth 100000
section
open Go.RowKit Go
set_option linter.unusedVariables false
set_option linter.unusedSimpArgs false
theorem zero32_cells : dA zero32L = zeros 32 := by kernel_rfl
set_option maxHeartbeats 1000000 in
set_option maxRecDepth 100000 in
theorem tnode_out (T b n D lb cap : Nat) (k : Int) (q : Nat → Nat) (F : Nat → Nat → List Nat) (w : World) (h : TrB w T b n D lb cap q F) (hk : k < 0 ∨ (2 : Int) ^ D ≤ k) (hkb : k ≤ 9223372036854775807) :
    Calls Try.prog 14 #[.pointer (some ⟨T, 0, none⟩), .int .i64 0, .int .i64 k] w fun e w' => e = .returned (.agg (zeros 32)) ∧ Below w.heap.size w w' := by
  have hz := zero_dig
  have hb1 : Below w.heap.size w (w.alloc (.cells (zeros 32) DgT)) := (Below.refl _ _).alloc (Nat.le_refl _) _
  have h1 := h.next hb1
  have k2 := h1.c2
  have kr := h1.row 0 (Nat.zero_le _)
  rw [Nat.sub_zero] at kr
  have HN := Lib.hid (tnone_any T b n D lb cap q F _ h1)
  have HDP := Lib.hid (tdepth_any T b n D lb cap q F _ h1)
  have hD := h.D5
  have hN : ∃ N : Nat, N = 2 ^ D := ⟨_, rfl⟩
  obtain ⟨N, hN⟩ := hN
  have hNi : ((2 : Int) ^ D) = (N : Int) := by rw [hN]; push_cast; rfl
  rw [hNi] at hk
  rw [← hN] at kr
  have HI := Lib.hid (info_dig (cs := zeros 32) (by simp [zeros]))
  have HO : Hid ((zeros 32).all (·.oneCell') = true) := Lib.hid (by kernel_rfl)
  have HX := Lib.hid (heap_alloc_new w (.cells (zeros 32) DgT))
  have HFX := Lib.hid (setRow_heap _ _ _ (zeros 32) _ _ (heap_alloc_new w (.cells (zeros 32) DgT)))
  have HFB := Lib.hid (below_setRow (g := w.heap.size) hb1 (Nat.le_refl _) (zeros 32))
  have a2 : decide ((D : Int) < 0) = false := decide_eq_false (by omega)
  clear h h1 hb1 hN hNi
  rcases hk with hk | hk
  · have a3 : decide (k < 0) = true := decide_eq_true hk
    go_enter Try.func14, Try.ntmps14
    go_wp2_with fail
    refine HN.out.mono ?_
    rintro e w' ⟨rfl, rfl⟩
    go_wp2_with fail
    refine HDP.out.mono ?_
    rintro e w' ⟨rfl, rfl⟩
    go_wp2_with (with_reducible refine wpList_store_row rfl DgT (.tmp 6) (.tmp 35) rfl _ _ rfl rfl DgT _ HX.out HI.out rfl HO.out ?_)
    exact bodyPost_ret (v := .agg (zeros 32)) (results_cell_row rfl _ _ _ DgT _ (0, 0) _ rfl HFX.out Try.underlying37 rfl HI.out) rfl ⟨rfl, HFB.out⟩
  · have a3 : decide (k < 0) = false := decide_eq_false (by omega)
    have a4 : decide ((N : Int) ≤ k) = true := decide_eq_true hk
    go_enter Try.func14, Try.ntmps14
    go_wp2_with fail
    refine HN.out.mono ?_
    rintro e w' ⟨rfl, rfl⟩
    go_wp2_with fail
    refine HDP.out.mono ?_
    rintro e w' ⟨rfl, rfl⟩
    go_wp2_with (with_reducible refine wpList_store_row rfl DgT (.tmp 6) (.tmp 35) rfl _ _ rfl rfl DgT _ HX.out HI.out rfl HO.out ?_)
    exact bodyPost_ret (v := .agg (zeros 32)) (results_cell_row rfl _ _ _ DgT _ (0, 0) _ rfl HFX.out Try.underlying37 rfl HI.out) rfl ⟨rfl, HFB.out⟩
/-- leaf k of n, or noughts -/
def leafK (n : Nat) (ls : Nat → List Nat) (k : Int) : List Nat := if 0 ≤ k ∧ k < (n : Int) then ls k.toNat else zero32L
end
section
open Go.RowKit Go
set_option linter.unusedVariables false
set_option linter.unusedSimpArgs false
theorem fill_one (xd : Array Value) (hx : xd.size = 32) : Instr.fill (fun i => some (i * 32, 32)) ((Array.range (1 * 32)).map ((Value.agg (zeros 32)).cells[· % (Value.agg (zeros 32)).cells.size]!)) [(0, .agg xd)] = some xd := by
  have h := Go.Great.fill_whole (s := 32) (by omega) [.agg xd] ((Array.range (1 * 32)).map ((Value.agg (zeros 32)).cells[· % (Value.agg (zeros 32)).cells.size]!)) (fun v hv => by
    have e : v = .agg xd := by simpa using hv
    rw [e]; exact hx) (by simp)
  have e1 : (([Value.agg xd].flatMap fun v => v.cells.toList).toArray) = xd := by simp [Value.cells]
  rw [e1] at h
  exact h
theorem wpList_build1 {ops : Array Oper} {rest : List Oper} {o : Oper} {a : Act} {w : World} {Q : Exit → Act → World → Prop} (hg : o.guard = none) (x : Operand) (ho : o.op = .buildSlice 30 1 #[(0, x)]) (xd : Array Value) (hx2 : xd.size = 32) (hx : a.eval x = .agg xd)
    (h : wpList Try.prog ops Q rest (a.put o.dst (.slice (some ⟨w.heap.size, 0, none⟩) 1 1)) (w.alloc (.cells xd DgT))) : wpList Try.prog ops Q (o :: rest) a w := by
  obtain ⟨ie, h0, h1, h2, h3⟩ := info_parts dg_info
  refine wpList_buildSlice hg 30 DgT 1 #[(0, x)] ho xd ie _ Try.underlying30 h0 h1 (by rw [h2]; omega) (by rw [h2]; omega) ?_ h
  rw [h2]
  simp only [List.map_toArray, List.map_cons, List.map_nil, hx]
  exact fill_one xd hx2
def flatD (ls : Nat → List Nat) (k : Nat) : List Value := (List.range k).flatMap fun i => (dA (ls i)).toList
theorem flatD_snoc (ls : Nat → List Nat) (k : Nat) : flatD ls (k + 1) = flatD ls k ++ (dA (ls k)).toList := by
  unfold flatD
  rw [List.range_succ, List.flatMap_append]
  simp
theorem flatD_len (ls : Nat → List Nat) : ∀ k, (flatD ls k).length = k * 32
  | 0 => by simp [flatD]
  | k + 1 => by rw [flatD_snoc, List.length_append, flatD_len ls k, Array.length_toList, rowV_size]; omega
theorem flatD_at (ls : Nat → List Nat) (i j : Nat) (hj : j < 32) : ∀ n, i < n → (flatD ls n)[i * 32 + j]? = (dA (ls i)).toList[j]?
  | 0, h => by omega
  | n + 1, h => by
    rw [flatD_snoc]
    by_cases e : i = n
    · subst e
      rw [List.getElem?_append_right (by rw [flatD_len]; omega), flatD_len, show i * 32 + j - i * 32 = j by omega]
    · rw [List.getElem?_append_left (by rw [flatD_len]; omega)]
      exact flatD_at ls i j hj n (by omega)
theorem wp_appD {ops : Array Oper} {rest : List Oper} {o : Oper} {a : Act} {Q : Exit → Act → World → Prop} (W : World) (hgd : o.guard = none) (s x : Operand)
    (ho : o.op = .call { callee := .builtin .append, args := #[s, x], argTypes := #[30, 30] })
    (B : Nat) (v : Value) (n : Nat) (xs : List Value) (xd : Array Value) (hx32 : xd.size = 32) (hone : xd.all (·.oneCell') = true) (hs : a.eval s = v) (hown : W.ownsRow B DgT 32 v n xs)
    (hx : a.eval x = .slice (some ⟨W.heap.size, 0, none⟩) 1 1) (hn : n < 1000) (hB : B ≤ W.heap.size)
    (h : ∀ v' w', w'.ownsRow B DgT 32 v' (n + 1) (xs ++ xd.toList) → Below B W w' → wpList Try.prog ops Q rest (a.put o.dst v') w') :
    wpList Try.prog ops Q (o :: rest) a (W.alloc (.cells xd DgT)) := by
  obtain ⟨i0, hi, hz0, hz1, hz2⟩ := info_parts dg_info
  have hnb := heap_alloc_new W (.cells xd DgT)
  refine wpList_append_own _ hgd s x 30 ho B DgT i0 (.agg (zeros 32)) 32 32 Try.underlying30 hi hz0 hz1 hz2 (by simp [Value.cells, zeros]) (by decide) v n xs hs (World.ownsRow.alloc hown _) ⟨W.heap.size, 0, none⟩ 1 1
    xd.toList hx (by rw [Array.length_toList]; omega) ?_ ?_ (by unfold maxLen; omega) (by omega) (by simp; omega) ?_
  · intro j u hj
    have e : (⟨W.heap.size, 0, none⟩ : Addr).add j = ⟨W.heap.size, j, none⟩ := by unfold Addr.add; split <;> simp_all
    rw [e, blk_cell hnb j]
    simpa using hj
  · intro u hu
    exact (Array.all_eq_true_iff_forall_mem.1 hone) u (by simpa using hu)
  · intro v' w1 hown' hg _
    exact h v' w1 hown' (((Below.refl B W).alloc hB _).grown hg (by simp; omega) (fun k hk => (World.ownsRow.lt hown k hk).1))
def DigTo (w : World) (n : Nat) (ls : Nat → List Nat) (e : Ending) (w' : World) : Prop := ∃ A c, e = .returned (.slice A n c) ∧ n ≤ c ∧ DgS w' A n ls ∧ Below w.heap.size w w'
theorem tdig_end {w W : World} {n : Nat} {ls : Nat → List Nat} {v : Value} (h : W.ownsRow w.heap.size DgT 32 v n (flatD ls n)) (hb : Below w.heap.size w W) (hd : ∀ k, IsDig (ls k)) : DigTo w n ls (.returned v) W := by
  by_cases hn : 0 < n
  · obtain ⟨g, cap, hv, hg, hgl, hc, hm, hx⟩ := own_at h hn
    refine ⟨_, cap, by rw [hv], hc, ⟨fun _ => ⟨g, 0, rfl, hgl, fun k hk j u hu => ?_⟩, hd⟩, hb⟩
    have hj : j < 32 := by have := (List.getElem?_eq_some_iff.1 hu).1; simpa [rowV_size] using this
    rw [show 0 + k * 32 + j = k * 32 + j by omega]
    exact hx _ _ ((flatD_at ls k j hj n hk).trans hu)
  · obtain rfl : n = 0 := by omega
    obtain ⟨h1, h2⟩ := h
    rcases h2 with ⟨h2, _⟩ | ⟨g, cap, cur, hv, hbg, hh, hnc, hm, _⟩
    · exact ⟨none, 0, by rw [h2], Nat.le_refl _, ⟨fun c => by omega, hd⟩, hb⟩
    · exact ⟨_, cap, by rw [hv], Nat.zero_le _, ⟨fun c => by omega, hd⟩, hb⟩
set_option maxHeartbeats 2000000 in
set_option maxRecDepth 100000 in
theorem digests_any (n c : Nat) (A : Option Addr) (ls : Nat → List Nat) (w : World) (h : DgS w A n ls) (hn : n ≤ 20) :
    Calls Try.prog 9 #[.slice A n c] w (DigTo w n ls) := by
  have hz := zero32
  have HH := Lib.hid h
  clear h
  go_enter Try.func9, Try.ntmps9
  go_wp2_with fail
  go_loopg [3, 8] n (fun gk v iv W => ∃ k : Nat, iv = .int .i64 (k : Int) ∧ k + gk = n ∧ W.ownsRow w.heap.size DgT 32 v k (flatD ls k) ∧ Below w.heap.size w W)
  case atStart => exact ⟨0, rfl, by omega, World.ownsRow_nil _ _ _ _, Below.refl _ _⟩
  case round =>
    obtain ⟨k, rfl, hk, hown, hb⟩ := hrel
    have HOW := Lib.hid hown
    have HB := Lib.hid hb
    clear hown hb
    by_cases hlt : k < n
    · obtain ⟨b, o, rfl, hbl, hrg⟩ := HH.out.1 (by omega)
      obtain ⟨xd, hxd⟩ : ∃ z, z = dA (ls k) := ⟨_, rfl⟩
      have hx2 : xd.size = 32 := by rw [hxd, rowV_size]
      have HI := Lib.hid (info_d32 hx2)
      have HIL : Hid ((Try.prog.info? 34).map (·.size) = some xd.toList.length) := Lib.hid (by rw [Array.length_toList]; exact info_d32 hx2)
      have hone : xd.all (·.oneCell') = true := by rw [hxd]; exact dA_one _
      have HO := Lib.hid hone
      have HX2 := Lib.hid hx2
      have HZ : Hid ((zeros 32).size = xd.size) := Lib.hid (by rw [hx2]; simp [zeros])
      have HR : Hid (wr.rangeAt b (o + k * 32) xd.toList) := Lib.hid (by rw [hxd]; exact range_of (HB.out.block b hbl) (hrg k hlt))
      have hxa : xd.toList.toArray = xd := by simp
      have ho8 := heap_alloc_new wr (.cells (zeros 32) 34)
      have HO8 := Lib.hid ho8
      obtain ⟨V8, hV8⟩ : ∃ V8, V8 = (wr.alloc (.cells (zeros 32) 34)).setRow wr.heap.size xd := ⟨_, rfl⟩
      have hb8 : Below wr.heap.size wr V8 := by rw [hV8]; exact below_setRow (g := wr.heap.size) ((Below.refl _ _).alloc (Nat.le_refl _) _) (Nat.le_refl _) xd
      have HP8 : Hid (V8.heap[wr.heap.size]? = some (.cells xd 34 (0, 0))) := Lib.hid (by rw [hV8]; exact setRow_heap _ _ _ xd _ _ ho8)
      have hown8 : V8.ownsRow w.heap.size DgT 32 u3 k (flatD ls k) := by
        obtain ⟨a1, a2⟩ := HOW.out
        refine ⟨a1, ?_⟩
        rcases a2 with a2 | ⟨g, cap, cur, hv, hbg, hh, hr⟩
        · exact .inl a2
        · exact .inr ⟨g, cap, cur, hv, hbg, (hb8.block g (blk_lt hh)).trans hh, hr⟩
      have HOW8 := Lib.hid hown8
      have HB8 := Lib.hid (HB.out.trans (hb8.mono HB.out.size))
      have HXD := Lib.hid hxd
      have HV8 := Lib.hid hV8
      clear hrg hxd hx2 hone ho8 hV8 hb8 hown8
      go_wp2_with (first
        | (with_reducible refine wpList_load_mid rfl 34 (.tmp 10) rfl b (o + k * 32) rfl xd.toList _ HR.out Try.underlying34 rfl HIL.out ?_)
        | (with_reducible refine wpList_store_row rfl 34 (.tmp 5) (.tmp 11) rfl _ _ rfl (by simp [Act.eval, Act.put]) 34 _ HO8.out HI.out HZ.out HO.out ?_; rw [← HV8.out])
        | (with_reducible refine wpList_load_row rfl 34 (.tmp 5) rfl _ rfl 34 _ _ _ HP8.out Try.underlying34 rfl HI.out ?_)
        | (with_reducible refine wpList_build1 rfl (.tmp 13) rfl xd HX2.out (by simp [Act.eval, Act.put]) ?_)
        | (at_builtin; refine wp_appD V8 rfl (.tmp 12) (.tmp 14) rfl w.heap.size u3 k (flatD ls k) xd HX2.out HO.out rfl HOW8.out rfl (by omega) HB8.out.size ?_; intro v' w1 hown1 hb1; have HOW1 := Lib.hid hown1; have HB1 := Lib.hid (HB8.out.trans hb1); clear hown1 hb1))
      go_roundg (n - (k + 1))
      case measure => omega
      case rel => exact ⟨k + 1, by go_num, by omega, by rw [flatD_snoc, ← HXD.out]; exact HOW1.out, HB1.out⟩
    · obtain rfl : k = n := by omega
      have HE := Lib.hid (tdig_end HOW.out HB.out HH.out.2)
      go_wp2_with fail
      go_ret
      exact HE.out
theorem few_small (n c : Nat) (A : Option Addr) (w : World) (hn : n ≤ 20) : Calls Try.prog 6 #[.slice A n c] w fun e w' => e = .returned (.slice A n c) ∧ w = w' := by
  have h1 : ¬ (20 : Int) < (n : Int) := by omega
  go_enter Try.func6, Try.ntmps6
  go_wp2
  go_ret
  exact ⟨rfl, rfl⟩
theorem few_big (n c b o : Nat) (w : World) (hn : 20 < n) (hc : n ≤ c) (hcm : c ≤ 9223372036854775807) : Calls Try.prog 6 #[.slice (some ⟨b, o, none⟩) n c] w fun e w' => e = .returned (.slice (some ⟨b, o, none⟩) 20 c) ∧ w = w' := by
  have h1 : (20 : Int) < (n : Int) := by omega
  have h2 : 20 < n := hn
  go_enter Try.func6, Try.ntmps6
  go_wp2
  go_ret
  exact ⟨rfl, rfl⟩
theorem tnew_zero (b c : Nat) (A : Option Addr) (w : World) : Calls Try.prog 7 #[.pointer (some ⟨b, 0, none⟩), .slice A 0 c] w fun e w' => e = .returned (.tuple #[.pointer none, .int .i64 1]) ∧ w = w' := by
  have HF := Lib.hid (fun W => fits_t 0 W)
  have hd : decide (1 ≤ 0 ∧ 0 ≤ 1024) = false := rfl
  rw [hd, show ((0 : Nat) : Int) = 0 from rfl] at HF
  clear hd
  go_enter Try.func7, Try.ntmps7
  go_wp2_with fail
  refine (HF.out _).mono ?_
  rintro e w' ⟨rfl, rfl⟩
  go_wp2_with fail
  exact bodyPost_ret (v := .tuple #[.pointer none, .int .i64 1]) (by simp [results, Try.results7, go_sem]) rfl ⟨rfl, rfl⟩
end
section
open Go.RowKit Go Go.WideShapes Go.ChangeShapes Go.Deep
set_option linter.unusedVariables false
set_option linter.unusedSimpArgs false
section
variable {H : Type} {enc : TypeId × Value → H} {w : World}
theorem cells_u8t : Try.prog.cellsOf 5 = 1 := by kernel_rfl
theorem cells_d32t : Try.prog.cellsOf 34 = 32 := by kernel_rfl
theorem d32_cells {m : Nat} {cs : List Value} {x : DataW H × List MemPlace} (hlen : cs.length = 32) (h : DataW.trod enc Try.prog w 0 (fun _ => true) true m 34 cs = some x) : ∃ l : List Nat, IsDig l ∧ cs = (dA l).toList := by
  obtain ⟨xs, k2, _, _, hl2, hxl, hel⟩ := DataW.trod_array Try.underlying34 h
  have hcell : ∀ i, i < 32 → ∃ q : Nat, q < 256 ∧ cs[i]? = some (.int .u8 (q : Int)) := fun i hi => by
    have h2 := hel i hi
    rw [cells_u8t, Nat.mul_one] at h2
    obtain ⟨y, hy⟩ : ∃ y, xs[i]? = some y := ⟨_, List.getElem?_eq_getElem (by omega)⟩
    rw [hy] at h2
    obtain ⟨z2, hz2, _, hw2⟩ := DataW.trod_int Try.underlying5 h2
    obtain ⟨q, hq, rfl⟩ := nat_u8 hw2
    refine ⟨q, hq, ?_⟩
    have h3 := congrArg (fun l => l[0]?) hz2
    simp only [List.getElem?_cons_zero] at h3
    rw [← h3, List.getElem?_take_of_lt (by omega), List.getElem?_drop]
    rfl
  have hq : ∀ i, ∃ q : Nat, i < 32 → q < 256 ∧ cs[i]? = some (.int .u8 (q : Int)) := fun i => by
    by_cases hi : i < 32
    · obtain ⟨q, h2⟩ := hcell i hi; exact ⟨q, fun _ => h2⟩
    · exact ⟨0, fun h => absurd h hi⟩
  obtain ⟨f, hf⟩ := Classical.skolem.1 hq
  have hg : ∀ j, j < 32 → ((List.range 32).map f).getD j 0 = f j := fun j hj => by rw [List.getD_eq_getElem?_getD, List.getElem?_map, List.getElem?_range hj]; rfl
  refine ⟨(List.range 32).map f, ⟨by simp, fun j => ?_⟩, List.ext_getElem? fun j => ?_⟩
  · by_cases hj : j < 32
    · rw [hg j hj]; exact (hf j hj).1
    · rw [List.getD_eq_getElem?_getD, List.getElem?_eq_none (by simp; omega)]; simp
  · by_cases hj : j < 32
    · rw [(hf j hj).2, Array.getElem?_toList, rowV_at _ hj]
      unfold bF
      rw [hg j hj]
      rfl
    · rw [List.getElem?_eq_none (by omega), List.getElem?_eq_none (by simp [rowV_size]; omega)]
theorem d32s_open {A : Option Addr} {n c : Nat} {d : DataW H} {p : List MemPlace} (h : DataW.Trod enc Try.prog w 0 (fun _ => true) true 22 (.slice A n c) d p) : (∃ ls, DgS w A n ls) ∧ n ≤ c ∧ c ≤ 9223372036854775807 := by
  obtain ⟨fuel, hfu⟩ := h
  rcases open_slice Try.underlying22 hfu with ⟨hcs, _⟩ | ⟨a, len, cap, m, k, D, Pl, hcs, _, hl, hm, hmm, _, hi⟩
  · simp [Value.cells] at hcs
    obtain ⟨rfl, rfl, rfl⟩ := hcs
    exact ⟨⟨fun _ => zero32L, fun h => absurd h (by omega), fun _ => zero32_dig⟩, by omega, by omega⟩
  · simp [Value.cells] at hcs
    obtain ⟨rfl, rfl, rfl⟩ := hcs
    have hm2 : m = c := by simpa using hmm
    refine ⟨?_, hl, by unfold maxLen at hm; omega⟩
    have key : ∀ i, ∃ l : List Nat, IsDig l ∧ (i < n → ∀ j v, (dA l).toList[j]? = some v → w.cell? ((a.add (i * 32)).add j) = some v) := fun i => by
      by_cases hin : i < n
      · obtain ⟨cs', hc, ht'⟩ := hi i (by omega)
        rw [cells_d32t] at hc
        obtain ⟨_, hcl, hat⟩ := World.cells?_some hc
        obtain ⟨l, h1, h2⟩ := d32_cells hcl ht'
        refine ⟨l, h1, fun _ j v hv => ?_⟩
        have hj : j < 32 := by have := (List.getElem?_eq_some_iff.1 hv).1; simpa [rowV_size] using this
        rw [hat j hj, h2]; exact hv
      · exact ⟨zero32L, zero32_dig, fun x => absurd x hin⟩
    obtain ⟨ls, hls⟩ := Classical.skolem.1 key
    refine ⟨ls, fun hn0 => ?_, fun k => (hls k).1⟩
    obtain ⟨b, off, spot⟩ := a
    have hk0 := (hls 0).2 hn0
    have h00 : (dA (ls 0)).toList[0]? = some (bF (ls 0) 0) := by rw [Array.getElem?_toList]; exact rowV_at _ (by omega)
    have hc0 := hk0 0 _ h00
    have hspot : spot = none := by simpa [Addr.add] using World.cell?_spot hc0
    subst hspot
    refine ⟨b, off, rfl, by simpa [Go.WideShapes.add_plain] using block_lt_of_cell hc0, fun i hin j v hv => ?_⟩
    have := (hls i).2 hin j v hv
    rwa [Go.WideShapes.add_plain, Go.WideShapes.add_plain] at this
end
end
section
open Go.RowKit Go
set_option linter.unusedVariables false
set_option linter.unusedSimpArgs false
/-- what Node tells -/
def nodeK (D : Nat) (F : Nat → Nat → List Nat) (d i : Int) : List Nat := if 0 ≤ d ∧ d ≤ (D : Int) ∧ 0 ≤ i ∧ i < (2 : Int) ^ (D - d.toNat) then F d.toNat i.toNat else zero32L
theorem nodeK_in {D d i : Nat} {F : Nat → Nat → List Nat} (hd : d ≤ D) (hi : i < 2 ^ (D - d)) : nodeK D F (d : Int) (i : Int) = F d i := by
  unfold nodeK
  rw [if_pos, Int.toNat_natCast, Int.toNat_natCast]
  refine ⟨by omega, by omega, by omega, ?_⟩
  rw [Int.toNat_natCast]
  exact_mod_cast hi
theorem nodeK_out {D : Nat} {F : Nat → Nat → List Nat} {d i : Int} (h : d < 0 ∨ (D : Int) < d ∨ i < 0 ∨ (2 : Int) ^ (D - d.toNat) ≤ i) : nodeK D F d i = zero32L := by
  unfold nodeK
  rw [if_neg]
  rintro ⟨h1, h2, h3, h4⟩
  omega
set_option maxHeartbeats 1000000 in
set_option maxRecDepth 100000 in
theorem tnode_any (T b n D lb cap : Nat) (d k : Int) (q : Nat → Nat) (F : Nat → Nat → List Nat) (w : World) (h : TrB w T b n D lb cap q F) (hkb : k ≤ 9223372036854775807) :
    Calls Try.prog 14 #[.pointer (some ⟨T, 0, none⟩), .int .i64 d, .int .i64 k] w fun e w' => e = .returned (.agg (dA (nodeK D F d k))) ∧ Below w.heap.size w w' := by
  by_cases hin : 0 ≤ d ∧ d ≤ (D : Int) ∧ 0 ≤ k ∧ k < (2 : Int) ^ (D - d.toNat)
  · obtain ⟨h1, h2, h3, h4⟩ := hin
    obtain ⟨d', rfl⟩ : ∃ d' : Nat, d = (d' : Int) := ⟨d.toNat, by omega⟩
    obtain ⟨i, rfl⟩ : ∃ i : Nat, k = (i : Int) := ⟨k.toNat, by omega⟩
    rw [Int.toNat_natCast] at h4
    have hi : i < 2 ^ (D - d') := by exact_mod_cast h4
    rw [nodeK_in (by omega) hi]
    exact tnode_in T b n D lb cap d' i q F w h (by omega) hi
  · have hz := zero_dig
    have hb1 : Below w.heap.size w (w.alloc (.cells (zeros 32) DgT)) := (Below.refl _ _).alloc (Nat.le_refl _) _
    have h1 := h.next hb1
    have k2 := h1.c2
    have HN := Lib.hid (tnone_any T b n D lb cap q F _ h1)
    have HDP := Lib.hid (tdepth_any T b n D lb cap q F _ h1)
    have hD := h.D5
    have HI := Lib.hid (info_dig (cs := zeros 32) (by simp [zeros]))
    have HO : Hid ((zeros 32).all (·.oneCell') = true) := Lib.hid (by kernel_rfl)
    have HX := Lib.hid (heap_alloc_new w (.cells (zeros 32) DgT))
    have HFX := Lib.hid (setRow_heap _ _ _ (zeros 32) _ _ (heap_alloc_new w (.cells (zeros 32) DgT)))
    have HFB := Lib.hid (below_setRow (g := w.heap.size) hb1 (Nat.le_refl _) (zeros 32))
    rcases (by omega : d < 0 ∨ (0 ≤ d ∧ (D : Int) < d) ∨ (0 ≤ d ∧ d ≤ (D : Int) ∧ k < 0) ∨ (0 ≤ d ∧ d ≤ (D : Int) ∧ 0 ≤ k)) with hc | ⟨hc, hc2⟩ | ⟨hc, hc2, hc3⟩ | ⟨hc, hc2, hc3⟩
    · rw [nodeK_out (.inl hc), zero32_cells]
      have a1 : decide (d < 0) = true := decide_eq_true hc
      clear h h1 hb1 hin
      go_enter Try.func14, Try.ntmps14
      go_wp2_with fail
      refine HN.out.mono ?_
      rintro e w' ⟨rfl, rfl⟩
      go_wp2_with (with_reducible refine wpList_store_row rfl DgT (.tmp 6) (.tmp 35) rfl _ _ rfl rfl DgT _ HX.out HI.out rfl HO.out ?_)
      exact bodyPost_ret (v := .agg (zeros 32)) (results_cell_row rfl _ _ _ DgT _ (0, 0) _ rfl HFX.out Try.underlying37 rfl HI.out) rfl ⟨rfl, HFB.out⟩
    · rw [nodeK_out (.inr (.inl hc2)), zero32_cells]
      have a1 : decide (d < 0) = false := decide_eq_false (by omega)
      have a2 : decide ((D : Int) < d) = true := decide_eq_true hc2
      clear h h1 hb1 hin
      go_enter Try.func14, Try.ntmps14
      go_wp2_with fail
      refine HN.out.mono ?_
      rintro e w' ⟨rfl, rfl⟩
      go_wp2_with fail
      refine HDP.out.mono ?_
      rintro e w' ⟨rfl, rfl⟩
      go_wp2_with (with_reducible refine wpList_store_row rfl DgT (.tmp 6) (.tmp 35) rfl _ _ rfl rfl DgT _ HX.out HI.out rfl HO.out ?_)
      exact bodyPost_ret (v := .agg (zeros 32)) (results_cell_row rfl _ _ _ DgT _ (0, 0) _ rfl HFX.out Try.underlying37 rfl HI.out) rfl ⟨rfl, HFB.out⟩
    · rw [nodeK_out (.inr (.inr (.inl hc3))), zero32_cells]
      have a1 : decide (d < 0) = false := decide_eq_false (by omega)
      have a2 : decide ((D : Int) < d) = false := decide_eq_false (by omega)
      have a3 : decide (k < 0) = true := decide_eq_true hc3
      clear h h1 hb1 hin
      go_enter Try.func14, Try.ntmps14
      go_wp2_with fail
      refine HN.out.mono ?_
      rintro e w' ⟨rfl, rfl⟩
      go_wp2_with fail
      refine HDP.out.mono ?_
      rintro e w' ⟨rfl, rfl⟩
      go_wp2_with (with_reducible refine wpList_store_row rfl DgT (.tmp 6) (.tmp 35) rfl _ _ rfl rfl DgT _ HX.out HI.out rfl HO.out ?_)
      exact bodyPost_ret (v := .agg (zeros 32)) (results_cell_row rfl _ _ _ DgT _ (0, 0) _ rfl HFX.out Try.underlying37 rfl HI.out) rfl ⟨rfl, HFB.out⟩
    · obtain ⟨d', rfl⟩ : ∃ d' : Nat, d = (d' : Int) := ⟨d.toNat, by omega⟩
      have hle : (2 : Int) ^ (D - d') ≤ k := by
        rw [Int.toNat_natCast] at hin
        rcases Int.lt_or_le k ((2 : Int) ^ (D - d')) with c | c
        · exact absurd ⟨hc, hc2, hc3, c⟩ hin
        · exact c
      rw [nodeK_out (.inr (.inr (.inr (by rw [Int.toNat_natCast]; exact hle)))), zero32_cells]
      have kr := h1.row d' (by omega)
      obtain ⟨N, hN⟩ : ∃ N : Nat, N = 2 ^ (D - d') := ⟨_, rfl⟩
      have hNi : ((2 : Int) ^ (D - d')) = (N : Int) := by rw [hN]; push_cast; rfl
      rw [hNi] at hle
      rw [← hN] at kr
      have a1 : decide ((d' : Int) < 0) = false := decide_eq_false (by omega)
      have a2 : decide ((D : Int) < (d' : Int)) = false := decide_eq_false (by omega)
      have a2' : decide (D < d') = false := decide_eq_false (by omega)
      have a3 : decide (k < 0) = false := decide_eq_false (by omega)
      have a4 : decide ((N : Int) ≤ k) = true := decide_eq_true hle
      clear h h1 hb1 hin hN hNi hc hc3
      go_enter Try.func14, Try.ntmps14
      go_wp2_with fail
      refine HN.out.mono ?_
      rintro e w' ⟨rfl, rfl⟩
      go_wp2_with fail
      refine HDP.out.mono ?_
      rintro e w' ⟨rfl, rfl⟩
      go_wp2_with (with_reducible refine wpList_store_row rfl DgT (.tmp 6) (.tmp 35) rfl _ _ rfl rfl DgT _ HX.out HI.out rfl HO.out ?_)
      exact bodyPost_ret (v := .agg (zeros 32)) (results_cell_row rfl _ _ _ DgT _ (0, 0) _ rfl HFX.out Try.underlying37 rfl HI.out) rfl ⟨rfl, HFB.out⟩
end
section
open Go.RowKit Go
set_option linter.unusedVariables false
set_option linter.unusedSimpArgs false
set_option maxRecDepth 100000
/-- how many levels stand above n leaves, up to 1024 -/
def dpX (n : Nat) : Nat := if n ≤ 1 then 0 else if n ≤ 2 then 1 else if n ≤ 4 then 2 else if n ≤ 8 then 3 else if n ≤ 16 then 4 else if n ≤ 32 then 5 else if n ≤ 64 then 6 else if n ≤ 128 then 7 else if n ≤ 256 then 8 else if n ≤ 512 then 9 else 10
theorem dpX_le (n : Nat) : dpX n ≤ 10 := by unfold dpX; repeat' split <;> try omega
theorem len8_all : ∀ m : Fin 256, Lib.len8 (m.1 : Int) = ((dpX (m.1 + 1) : Nat) : Int) := by decide +kernel
theorem len8_is {m : Nat} (h : m < 256) : Lib.len8 (m : Int) = ((dpX (m + 1) : Nat) : Int) := len8_all ⟨m, h⟩
theorem dpX_shift {m : Nat} (h : 256 ≤ m) (h2 : m < 1024) : dpX (m / 256 + 1) + 8 = dpX (m + 1) := by
  have : m / 256 = 1 ∨ m / 256 = 2 ∨ m / 256 = 3 := by omega
  unfold dpX
  rcases this with e | e | e <;> rw [e] <;> simp <;> (repeat' split) <;> omega
theorem tab_is {m : Nat} (h : m < 256) (hsz : m < Lib.len8tab.size) : (((Lib.len8tab[m]'hsz).toNat : Nat) : Int) = ((dpX (m + 1) : Nat) : Int) := by
  have e := len8_is h
  unfold Lib.len8 at e
  rw [Int.toNat_natCast, ByteArray.getElem?_lt' _ _ hsz, Option.getD_some] at e
  exact e
theorem len64_any (m : Nat) (h2 : m < 1024) (w : World) : Calls Try.prog 59 #[.int .u64 (m : Int)] w fun e w' => e = .returned (.int .i64 (dpX (m + 1) : Int)) ∧ w = w' := by
  have b1 : decide ((4294967296 : Int) ≤ (m : Int)) = false := decide_eq_false (by omega)
  have b2 : decide ((65536 : Int) ≤ (m : Int)) = false := decide_eq_false (by omega)
  by_cases h : m < 256
  · have b3 : ¬ (256 : Int) ≤ (m : Int) := by omega
    have hsz : m < Lib.len8tab.size := by rw [Lib.len8tab_size]; exact h
    have e9 := tab_is h hsz
    have em : (m : Int) % 256 = (m : Int) := by omega
    have hd10 := dpX_le (m + 1)
    generalize dpX (m + 1) = d at *
    go_enter Try.func59, Try.ntmps59
    go_wp2
    go_ret
    exact ⟨rfl, rfl⟩
  · have b3 : (256 : Int) ≤ (m : Int) := by omega
    have hq : m / 256 < 256 := by omega
    have hsz : m / 256 < Lib.len8tab.size := by rw [Lib.len8tab_size]; exact hq
    have e9 := tab_is hq hsz
    have hd := dpX_shift (by omega) h2
    have eq1 : (m : Int) / 256 = ((m / 256 : Nat) : Int) := by omega
    generalize m / 256 = q at *
    have em : (q : Int) % 256 = (q : Int) := by omega
    have hd10 := dpX_le (m + 1)
    have hd2 := dpX_le (q + 1)
    have HD := Lib.hid hd
    clear hd
    generalize dpX (m + 1) = d at *
    generalize dpX (q + 1) = d2 at *
    go_enter Try.func59, Try.ntmps59
    go_wp2
    go_ret
    exact ⟨ret_int (by have := HD.out; omega), rfl⟩
theorem blen_any (m : Nat) (h2 : m < 1024) (w : World) : Calls Try.prog 41 #[.int .u64 (m : Int)] w fun e w' => e = .returned (.int .i64 (dpX (m + 1) : Int)) ∧ w = w' := by
  have HL := Lib.hid (fun W => len64_any m h2 W)
  go_enter Try.func41, Try.ntmps41
  go_wp2_with fail
  refine (HL.out _).mono ?_
  rintro e w' ⟨rfl, rfl⟩
  go_wp2
  go_ret
  exact ⟨rfl, rfl⟩
theorem depth_x (n : Nat) (h1 : 1 ≤ n) (h2 : n ≤ 1024) (w : World) : Calls Try.prog 22 #[.int .i64 (n : Int)] w fun e w' => e = .returned (.int .i64 (dpX n : Int)) ∧ w = w' := by
  have HL := Lib.hid (fun W => blen_any (n - 1) (by omega) W)
  rw [show n - 1 + 1 = n by omega] at HL
  have e : (n : Int) - 1 = ((n - 1 : Nat) : Int) := by omega
  generalize n - 1 = m at *
  have hm : m < 1024 := by omega
  have eu : IntKind.u64.wrap (m : Int) = (m : Int) := IntWalk.u64_in _ (by omega)
  go_enter Try.func22, Try.ntmps22
  go_wp2_with fail
  refine (HL.out _).mono ?_
  rintro e w' ⟨rfl, rfl⟩
  go_wp2
  go_ret
  exact ⟨rfl, rfl⟩
set_option maxHeartbeats 4000000 in
theorem dpX_of {n k : Nat} (h1 : ∀ j, j < k → 2 ^ j < n) (h2 : n ≤ 2 ^ k) (hn : n ≤ 1024) : k = dpX n := by
  have hk : k ≤ 10 := by
    rcases Nat.lt_or_ge 10 k with c | c
    · have := h1 10 c; omega
    · exact c
  have q0 := h1 0; have q1 := h1 1; have q2 := h1 2; have q3 := h1 3; have q4 := h1 4; have q5 := h1 5; have q6 := h1 6; have q7 := h1 7; have q8 := h1 8; have q9 := h1 9
  unfold dpX
  rcases (by omega : k = 0 ∨ k = 1 ∨ k = 2 ∨ k = 3 ∨ k = 4 ∨ k = 5 ∨ k = 6 ∨ k = 7 ∨ k = 8 ∨ k = 9 ∨ k = 10) with rfl | rfl | rfl | rfl | rfl | rfl | rfl | rfl | rfl | rfl | rfl <;> simp at * <;> (repeat' split) <;> omega
theorem rdepth_x (n : Nat) (hn : n ≤ 1024) (w : World) : Calls Try.prog 11 #[.int .i64 (n : Int)] w fun e w' => e = .returned (.int .i64 (dpX n : Int)) ∧ w = w' := by
  go_enter Try.func11, Try.ntmps11
  go_wp2
  go_loopg [3, 4] 11 (fun gk kv wv W => ∃ k P : Nat, kv = .int .i64 (k : Int) ∧ wv = .int .i64 (P : Int) ∧ P = 2 ^ k ∧ k + gk = 11 ∧ (∀ j, j < k → 2 ^ j < n) ∧ W = w)
  case atStart => exact ⟨0, 1, rfl, rfl, rfl, rfl, fun j hj => by omega, rfl⟩
  case round =>
    obtain ⟨k, P, rfl, rfl, hP, hk, hj, rfl⟩ := hrel
    have HP := Lib.hid hP
    have HJ := Lib.hid hj
    have hk5 : k ≤ 11 := by omega
    have hPb : P ≤ 2048 := by rw [hP]; exact Nat.le_trans (Nat.pow_le_pow_right (by omega) hk5) (by decide)
    clear hP hj
    by_cases hlt : P < n
    · have h5 : k < 10 := by
        rcases Nat.lt_or_ge k 10 with c | c
        · exact c
        · have h1 := HP.out
          have h2 : 2 ^ 10 ≤ 2 ^ k := Nat.pow_le_pow_right (by omega) c
          omega
      go_wp2_with fail
      go_roundg (11 - (k + 1))
      case measure => omega
      case rel => exact ⟨k + 1, 2 * P, by go_num, by go_num, by rw [HP.out, Nat.pow_succ]; omega, by omega, fun j hj => by
        by_cases e : j = k
        · subst e; rw [← HP.out]; exact hlt
        · exact HJ.out j (by omega), rfl⟩
    · have hkd : k = dpX n := dpX_of HJ.out (by rw [← HP.out]; omega) hn
      have HKD := Lib.hid hkd
      clear hkd
      go_wp2_with fail
      go_ret
      exact ⟨by rw [HKD.out]; rfl, rfl⟩
end
section
open Go.RowKit Go
set_option linter.unusedVariables false
set_option linter.unusedSimpArgs false
set_option maxRecDepth 100000
/-- what stands d levels above leaf k: x, and what stands beside the way up, ps -/
def upS (k : Nat) (x : List Nat) (ps : Nat → List Nat) : Nat → List Nat
  | 0 => x
  | d + 1 => Sha.sum (nodeT (d + 1) (k / 2 ^ (d + 1)) (if (k / 2 ^ d) % 2 = 1 then ps d else upS k x ps d) (if (k / 2 ^ d) % 2 = 1 then upS k x ps d else ps d))
theorem upS_dig {k : Nat} {x : List Nat} {ps : Nat → List Nat} (h : IsDig x) : ∀ d, IsDig (upS k x ps d)
  | 0 => h
  | d + 1 => bk_dig _
def UpNo (w : World) (e : Ending) (w' : World) : Prop := e = .returned (.tuple #[.agg (zeros 32), .int .i64 1]) ∧ Below w.heap.size w w'
def UpYes (w : World) (b g : Nat) (S : Nat → Prop) (t : List Nat) (e : Ending) (w' : World) : Prop :=
  e = .returned (.tuple #[.agg (digA t), .int .i64 0]) ∧ Turns S w w' ∧ ∃ (S' : Nat → Prop) (Tx sh : List (List Nat)), IsBook w' b g S' Tx sh ∧ ∀ j, S' j → S j ∨ w.heap.size ≤ j
theorem yields_rowU {P : Program} {ops : Array Oper} {S : World → Prop} {o : Oper} {a : Act} (hw : Region.wanted o (yielded ops a.tmps) = true) (ty : TypeId) (x : Operand) (ho : o.op = .load ty x) (b off : Nat) (hx : a.eval x = .pointer (some ⟨b, off, none⟩)) (xs : Array Value) (d : TypeDesc)
    (hS : ∀ w, S w → w.rangeAt b off xs.toList) (hu : P.underlying ty = some d) (hd : d.isRow = true) (hi : (P.info? ty).map (·.size) = some xs.size) : YieldsIf P ops S o (.agg xs) a :=
  .inl ⟨hw, fun w h => by
    unfold execOp
    simp only [ho, hx, Instr.loadAt, Instr.sureAddr, Sem.run_bind, Sem.run_pure, Result.andThen_ok, run_loadVar_mid w b off ty xs.toList d (hS w h) hu hd (by simpa using hi), Array.toArray_toList]⟩
theorem range_cells {w : World} {g : Nat} {xs : Array Value} {t : TypeId} {fr : Nat × Nat} (h : w.heap[g]? = some (.cells xs t fr)) : w.rangeAt g 0 xs.toList := fun j v hv => by
  rw [Nat.zero_add, cell_of_row w g j xs t fr h]
  simpa using hv
theorem rts_row {P : Program} {fn : Func} {p u : Tmp} {ty : TypeId} (h : fn.results = #[.cell p ty, .tmp u]) (tmps : Array Value) (w : World) (g : Nat) (t : TypeId) (cs : Array Value) (fr : Nat × Nat) (d : TypeDesc)
    (v2 : Value) (hp : tmps.getD p undef = .pointer (some ⟨g, 0, none⟩)) (hv2 : tmps.getD u undef = v2) (hg : w.heap[g]? = some (.cells cs t fr))
    (hu : P.underlying ty = some d) (hd : (match d with | .struct _ | .array _ _ => true | _ => false) = true) (hi : (P.info? ty).map (·.size) = some cs.size) :
    (results fn tmps).run P w = .ok (.tuple #[.agg cs, v2]) w := by
  subst hv2
  have hp' : tmps[p]?.getD undef = .pointer (some ⟨g, 0, none⟩) := by simpa using hp
  simp [results, h, hp', asAddr, run_loadVar_row w g t ty cs fr d hg hu hd hi, Sem.run_bind, Result.andThen]
theorem tfits_no (n : Int) (hn : ¬ (1 ≤ n ∧ n ≤ 1024)) (w : World) : Calls Try.prog 21 #[.int .i64 n] w fun e w' => e = .returned (.bool false) ∧ w = w' := by
  by_cases h : 1 ≤ n
  · have h2 : ¬ n ≤ 1024 := fun c => hn ⟨h, c⟩
    go_enter Try.func21, Try.ntmps21
    go_wp2
    go_ret
    exact ⟨ret_bool (by simp; try omega), rfl⟩
  · go_enter Try.func21, Try.ntmps21
    go_wp2
    go_ret
    exact ⟨ret_bool (by simp; try omega), rfl⟩
set_option maxHeartbeats 2000000 in
theorem tup_no (b : Nat) (n k : Int) (x : List Nat) (A : Option Addr) (m c : Nat) (w : World) (hno : n < 1 ∨ 1024 < n ∨ k < 0 ∨ n ≤ k ∨ m ≠ dpX n.toNat) :
    Calls Try.prog 15 #[.pointer (some ⟨b, 0, none⟩), .int .i64 n, .int .i64 k, .agg (dA x), .slice A m c] w (UpNo w) := by
  have hz := zero_dig
  have hs1 : (w.alloc (.cells (dA x) 37)).heap.size = w.heap.size + 1 := by simp
  obtain ⟨W0, hW0⟩ : ∃ W0, W0 = (w.alloc (.cells (dA x) 37)).alloc (.cells (zeros 32) 37) := ⟨_, rfl⟩
  have HB0 : Hid (Below w.heap.size w W0) := Lib.hid (by rw [hW0]; exact ((Below.refl _ _).alloc (Nat.le_refl _) _).alloc (by rw [hs1]; omega) _)
  have HS0 : Hid (W0.heap.size = w.heap.size + 2) := Lib.hid (by rw [hW0]; simp)
  have HP8 : Hid (W0.heap[w.heap.size]? = some (.cells (dA x) 37 (0, 0))) := Lib.hid (by rw [hW0]; exact blk_alloc (heap_alloc_new w _) _)
  have HR0 : Hid (W0.heap[w.heap.size + 1]? = some (.cells (zeros 32) 37 (0, 0))) := Lib.hid (by rw [hW0, ← hs1]; exact heap_alloc_new _ _)
  have HW0 := Lib.hid hW0
  have hx32 : (dA x).size = 32 := by rw [rowV_size]
  have HIX := Lib.hid (info_dig hx32)
  have HOX : Hid ((dA x).all (·.oneCell') = true) := Lib.hid (dA_one _)
  have HZX : Hid ((zeros 32).size = (dA x).size) := Lib.hid (by rw [hx32]; simp [zeros])
  have HIZ := Lib.hid (info_dig (cs := zeros 32) (by simp [zeros]))
  have HOZ : Hid ((zeros 32).all (·.oneCell') = true) := Lib.hid (by kernel_rfl)
  have HF := Lib.hid (setRow_heap _ _ _ (zeros 32) _ _ HR0.out)
  have HBF : Hid (Below w.heap.size w (W0.setRow (w.heap.size + 1) (zeros 32))) := Lib.hid (below_setRow HB0.out (by omega) _)
  obtain ⟨xd, hxd⟩ : ∃ z, z = dA x := ⟨_, rfl⟩
  rw [← hxd] at HW0 ⊢
  clear hW0 hs1 hx32 HIX HOX HZX HP8 hxd
  by_cases hn : 1 ≤ n ∧ n ≤ 1024
  · obtain ⟨n', rfl⟩ : ∃ n' : Nat, n = (n' : Int) := ⟨n.toNat, by omega⟩
    have HFT := Lib.hid (fun W => fits_t n' W)
    rw [decide_eq_true (show 1 ≤ n' ∧ n' ≤ 1024 by omega)] at HFT
    have HDX := Lib.hid (fun W => depth_x n' (by omega) (by omega) W)
    rw [Int.toNat_natCast] at hno
    by_cases hk : k < 0
    · go_enter Try.func15, Try.ntmps15
      go_wp2_with (with_reducible refine Go.Great.wpList_boxTo rfl 37 (.tmp 3) rfl (some 8) rfl w.heap.size (by simp) xd rfl ?_)
      rw [← HW0.out]
      refine (HFT.out _).mono ?_
      rintro e w' ⟨rfl, rfl⟩
      go_wp2_with (with_reducible refine wpList_store_row rfl 37 (.tmp 10) (.tmp 37) rfl _ _ rfl rfl 37 _ HR0.out HIZ.out rfl HOZ.out ?_)
      exact bodyPost_ret (v := .tuple #[.agg (zeros 32), .int .i64 1]) (rts_row rfl _ _ _ 37 _ (0, 0) _ _ rfl rfl HF.out Try.underlying37 rfl HIZ.out) rfl ⟨rfl, HBF.out⟩
    · by_cases hkn : (n' : Int) ≤ k
      · have hk0 : ¬ k < 0 := hk
        go_enter Try.func15, Try.ntmps15
        go_wp2_with (with_reducible refine Go.Great.wpList_boxTo rfl 37 (.tmp 3) rfl (some 8) rfl w.heap.size (by simp) xd rfl ?_)
        rw [← HW0.out]
        refine (HFT.out _).mono ?_
        rintro e w' ⟨rfl, rfl⟩
        go_wp2_with (with_reducible refine wpList_store_row rfl 37 (.tmp 10) (.tmp 37) rfl _ _ rfl rfl 37 _ HR0.out HIZ.out rfl HOZ.out ?_)
        exact bodyPost_ret (v := .tuple #[.agg (zeros 32), .int .i64 1]) (rts_row rfl _ _ _ 37 _ (0, 0) _ _ rfl rfl HF.out Try.underlying37 rfl HIZ.out) rfl ⟨rfl, HBF.out⟩
      · have hm : m ≠ dpX n' := by omega
        have hmi : ((m : Int) == (dpX n' : Int)) = false := by rw [beq_eq_false_iff_ne]; omega
        have hmi2 : ((m : Int) != (dpX n' : Int)) = true := by simp [bne, hmi]
        have hmi3 : ¬ (m : Int) = (dpX n' : Int) := by omega
        generalize dpX n' = dn at *
        clear hno
        go_enter Try.func15, Try.ntmps15
        go_wp2_with (with_reducible refine Go.Great.wpList_boxTo rfl 37 (.tmp 3) rfl (some 8) rfl w.heap.size (by simp) xd rfl ?_)
        rw [← HW0.out]
        refine (HFT.out _).mono ?_
        rintro e w' ⟨rfl, rfl⟩
        go_wp2_with fail
        refine (HDX.out _).mono ?_
        rintro e w' ⟨rfl, rfl⟩
        go_wp2_with (with_reducible refine wpList_store_row rfl 37 (.tmp 10) (.tmp 37) rfl _ _ rfl rfl 37 _ HR0.out HIZ.out rfl HOZ.out ?_)
        exact bodyPost_ret (v := .tuple #[.agg (zeros 32), .int .i64 1]) (rts_row rfl _ _ _ 37 _ (0, 0) _ _ rfl rfl HF.out Try.underlying37 rfl HIZ.out) rfl ⟨rfl, HBF.out⟩
  · have HFT : Hid (∀ W, Calls Try.prog 21 #[.int .i64 n] W fun e w' => e = .returned (.bool false) ∧ W = w') := Lib.hid (fun W => tfits_no n hn W)
    go_enter Try.func15, Try.ntmps15
    go_wp2_with (with_reducible refine Go.Great.wpList_boxTo rfl 37 (.tmp 3) rfl (some 8) rfl w.heap.size (by simp) xd rfl ?_)
    rw [← HW0.out]
    refine (HFT.out _).mono ?_
    rintro e w' ⟨rfl, rfl⟩
    go_wp2_with (with_reducible refine wpList_store_row rfl 37 (.tmp 10) (.tmp 37) rfl _ _ rfl rfl 37 _ HR0.out HIZ.out rfl HOZ.out ?_)
    exact bodyPost_ret (v := .tuple #[.agg (zeros 32), .int .i64 1]) (rts_row rfl _ _ _ 37 _ (0, 0) _ _ rfl rfl HF.out Try.underlying37 rfl HIZ.out) rfl ⟨rfl, HBF.out⟩
end
section
open Go.RowKit Go
set_option linter.unusedVariables false
set_option linter.unusedSimpArgs false
set_option maxRecDepth 100000
/-- what the loop of Up keeps: p8.. the result's cell r, the place's p, the sum's q, and the book -/
def UpInv (w : World) (b g k p q : Nat) (S : Nat → Prop) (x : List Nat) (ps : Nat → List Nat) (m : Nat) (i : Value) (W : World) : Prop :=
  ∃ d : Nat, i = .int .i64 (d : Int) ∧ d ≤ m ∧ W.heap[w.heap.size + 1]? = some (.cells (zeros 32) 37 (0, 0)) ∧ W.heap[p]? = some (.cells #[.int .i64 (d : Int), .int .i64 ((k / 2 ^ d : Nat) : Int)] 64 (0, 0)) ∧
    W.heap[q]? = some (.cells (dA (upS k x ps d)) 37 (0, 0)) ∧ Turns S w W ∧ ∃ (S' : Nat → Prop) (Tx sh : List (List Nat)), IsBook W b g S' Tx sh ∧ (∀ j, S' j → S j ∨ w.heap.size ≤ j) ∧ ¬ S' (w.heap.size + 1) ∧ ¬ S' p ∧ ¬ S' q
theorem two_at (W0 : World) (o1 o2 : Obj) : ((W0.alloc o1).alloc o2).heap[W0.heap.size]? = some o1 ∧ ((W0.alloc o1).alloc o2).heap[W0.heap.size + 1]? = some o2 ∧ Below W0.heap.size W0 ((W0.alloc o1).alloc o2) ∧ ((W0.alloc o1).alloc o2).heap.size = W0.heap.size + 2 := by
  have e1 : (W0.alloc o1).heap.size = W0.heap.size + 1 := by simp
  refine ⟨(Below.heap_alloc _ _ _ (by omega)).trans (heap_alloc_new W0 o1), ?_, ((Below.refl _ _).alloc (Nat.le_refl _) _).alloc (by omega) _, by simp⟩
  rw [← e1]; exact heap_alloc_new _ o2
theorem two_set {W0 V : World} {p q : Nat} {P X oldp oldq : Array Value} {tp tq : TypeId} (hb : Below W0.heap.size W0 V) (hp : V.heap[p]? = some (.cells oldp tp (0, 0))) (hq : V.heap[q]? = some (.cells oldq tq (0, 0))) (hne : p ≠ q) (hp0 : W0.heap.size ≤ p) (hq0 : W0.heap.size ≤ q) :
    ((V.setRow p P).setRow q X).heap[p]? = some (.cells P tp (0, 0)) ∧ ((V.setRow p P).setRow q X).heap[q]? = some (.cells X tq (0, 0)) ∧ Below W0.heap.size W0 ((V.setRow p P).setRow q X) := by
  have h1 := setRow_heap V p oldp P tp (0, 0) hp
  have h2 : (V.setRow p P).heap[q]? = some (.cells oldq tq (0, 0)) := (setRow_other _ _ _ _ (fun e => hne e.symm)).trans hq
  exact ⟨(setRow_other _ _ _ _ hne).trans h1, setRow_heap _ q oldq X tq (0, 0) h2, below_setRow (below_setRow hb hp0 _) hq0 _⟩
theorem one_pl (a b : Int) : (#[Value.int .i64 a, Value.int .i64 b] : Array Value).all (·.oneCell') = true := by first | rfl | kernel_rfl | simp [Value.oneCell'] | (simp; exact ⟨rfl, rfl⟩)
theorem turns_setRow (w : World) (a : Nat) (cs : Array Value) : Turns (fun j => j = a) w (w.setRow a cs) := ⟨rfl, rfl, rfl, by rw [size_setRow]; exact Nat.le_refl _, fun j _ hn => setRow_other _ _ _ _ hn⟩
theorem bk_setRow {w : World} {b g : Nat} {S : Nat → Prop} {T sh : List (List Nat)} (h : IsBook w b g S T sh) {a : Nat} (ha : ¬ S a) (cs : Array Value) : IsBook (w.setRow a cs) b g S T sh := h.turns (F := fun j => j = a) (turns_setRow w a cs) (fun j hj => by subst hj; exact ha)
theorem tS_setRow {S : Nat → Prop} {w W : World} (h : Turns S w W) {a : Nat} (ha : w.heap.size ≤ a) (cs : Array Value) : Turns S w (W.setRow a cs) := h.trans (turns_setRow W a cs) (fun j hj e => by omega)
theorem turnsU {w w' : World} {S : Nat → Prop} {k : Nat} {cs : Array Value} {t : TypeId} (h : Turns S w w') (hk : ¬ S k) (ho : w.heap[k]? = some (.cells cs t (0, 0))) : w'.heap[k]? = some (.cells cs t (0, 0)) := (h.block k (blk_lt ho) hk).trans ho
theorem info_pl : (Try.prog.info? 64).map (·.size) = some 2 := by kernel_rfl
theorem info_pl2 (a b : Int) : (Try.prog.info? 64).map (·.size) = some (#[Value.int .i64 a, Value.int .i64 b] : Array Value).size := info_pl
theorem sz_pl (a b c d : Int) : (#[Value.int .i64 a, Value.int .i64 b] : Array Value).size = (#[Value.int .i64 c, Value.int .i64 d] : Array Value).size := rfl
set_option maxHeartbeats 4000000 in
theorem tup_yes (b g n k m c : Nat) (x : List Nat) (A : Option Addr) (ps : Nat → List Nat) (S : Nat → Prop) (Tx sh : List (List Nat)) (w : World) (hbk : IsBook w b g S Tx sh) (hds : DgS w A m ps) (hoff : ∀ ad, A = some ad → ¬ S ad.block) (h1 : 1 ≤ n) (h2 : n ≤ 1024) (hk : k < n) (hm : m = dpX n) (hc : m ≤ c) (hx : IsDig x) :
    Calls Try.prog 15 #[.pointer (some ⟨b, 0, none⟩), .int .i64 (n : Int), .int .i64 (k : Int), .agg (dA x), .slice A m c] w (UpYes w b g S (txt 2 [putL 4 n, upS k x ps m])) := by
  have hz := zero_dig
  have hs1 : (w.alloc (.cells (dA x) 37)).heap.size = w.heap.size + 1 := by simp
  obtain ⟨W0, hW0⟩ : ∃ W0, W0 = (w.alloc (.cells (dA x) 37)).alloc (.cells (zeros 32) 37) := ⟨_, rfl⟩
  have HB0 : Hid (Below w.heap.size w W0) := Lib.hid (by rw [hW0]; exact ((Below.refl _ _).alloc (Nat.le_refl _) _).alloc (by rw [hs1]; omega) _)
  have HS0 : Hid (W0.heap.size = w.heap.size + 2) := Lib.hid (by rw [hW0]; simp)
  have HP8 : Hid (W0.heap[w.heap.size]? = some (.cells (dA x) 37 (0, 0))) := Lib.hid (by rw [hW0]; exact blk_alloc (heap_alloc_new w _) _)
  have HR0 : Hid (W0.heap[w.heap.size + 1]? = some (.cells (zeros 32) 37 (0, 0))) := Lib.hid (by rw [hW0, ← hs1]; exact heap_alloc_new _ _)
  have HW0 := Lib.hid hW0
  have hx32 : (dA x).size = 32 := by rw [rowV_size]
  have HIX := Lib.hid (info_dig hx32)
  have HOX : Hid ((dA x).all (·.oneCell') = true) := Lib.hid (dA_one _)
  have HZX : Hid ((zeros 32).size = (dA x).size) := Lib.hid (by rw [hx32]; simp [zeros])
  have HIZ := Lib.hid (info_dig (cs := zeros 32) (by simp [zeros]))
  have HOZ : Hid ((zeros 32).all (·.oneCell') = true) := Lib.hid (by kernel_rfl)
  have HFT := Lib.hid (fun W => fits_t n W)
  rw [decide_eq_true (show 1 ≤ n ∧ n ≤ 1024 by omega)] at HFT
  have HDX := Lib.hid (fun W => depth_x n h1 h2 W)
  rw [← hm] at HDX
  have hm10 : m ≤ 10 := by rw [hm]; exact dpX_le n
  have HBK := Lib.hid hbk
  have HSUB : Hid (∀ j, S j → j < w.heap.size) := Lib.hid (fun j hj => hbk.sub hj)
  have HDS := Lib.hid hds
  have HOFF := Lib.hid hoff
  have HX := Lib.hid hx
  have HXX := Lib.hid hx32
  obtain ⟨xd, hxd⟩ : ∃ z, z = dA x := ⟨_, rfl⟩
  have HXD := Lib.hid hxd
  rw [← hxd] at HW0 HP8 HIX HOX HZX ⊢
  clear hW0 hs1 hx32 hxd hbk hds hoff hx hm
  have hk1 : ¬ (k : Int) < 0 := by omega
  have hk2 : ¬ (n : Int) ≤ (k : Int) := by omega
  go_enter Try.func15, Try.ntmps15
  go_wp2_with (with_reducible refine Go.Great.wpList_boxTo rfl 37 (.tmp 3) rfl (some 8) rfl w.heap.size (by simp) xd rfl ?_)
  rw [← HW0.out]
  refine (HFT.out _).mono ?_
  rintro e w' ⟨rfl, rfl⟩
  go_wp2_with fail
  refine (HDX.out _).mono ?_
  rintro e w' ⟨rfl, rfl⟩
  go_upto_region 3 with (fail)
  have HK : Hid (∀ W, Below W0.heap.size W0 W → W.heap[w.heap.size]? = some (.cells xd 37 (0, 0)) ∧ Below W0.heap.size W0 W) := Lib.hid (fun W hW => ⟨(hW.block _ (blk_lt HP8.out)).trans HP8.out, hW⟩)
  refine wp_region_F (S := (fun W : World => W.heap[w.heap.size]? = some (.cells xd 37 (0, 0)) ∧ Below W0.heap.size W0 W)) [] (by kernel_rfl) (HK.out _ ((Below.refl _ _).drew)) (fun hHeld => ?_)
  refine wpAnyF_take (i := 0) (oi := _) (v := ?_) rfl (by kernel_rfl) (by kernel_rfl) (by kernel_rfl) (by kernel_rfl) (fun _ _ _ h => h) (Or.inl ⟨by rfl, ?_⟩) (by assumption) ?_
  rotate_left 1
  · intro w hSw
    (try dsimp only at hSw)
    (first | (go_simp; done) | (go_simp; with_reducible rfl))
  (try simp only [Act.put, List.getElem_toArray, List.getElem_cons_succ, List.getElem_cons_zero, List.setIfInBounds_toArray, List.set_cons_zero, List.set_cons_succ])
  refine wpAnyF_take (i := 1) (oi := _) (v := ?_) rfl (by kernel_rfl) (by kernel_rfl) (by kernel_rfl) (by kernel_rfl) (fun _ _ _ h => h) (Or.inl ⟨by rfl, ?_⟩) (by assumption) ?_
  rotate_left 1
  · intro w hSw
    (try dsimp only at hSw)
    (first | (go_simp; done) | (go_simp; with_reducible rfl))
  (try simp only [Act.put, List.getElem_toArray, List.getElem_cons_succ, List.getElem_cons_zero, List.setIfInBounds_toArray, List.set_cons_zero, List.set_cons_succ])
  refine wpAnyF_take (i := 2) (oi := _) (v := _) rfl (by kernel_rfl) (by kernel_rfl) (by kernel_rfl) (by kernel_rfl) (fun _ _ _ h => h) (yields_rowU (by rfl) 37 (.tmp 8) rfl w.heap.size 0 rfl xd _ (fun W h => range_cells h.1) Try.underlying37 rfl HIX.out) (by assumption) ?_
  (try simp only [Act.put, List.getElem_toArray, List.getElem_cons_succ, List.getElem_cons_zero, List.setIfInBounds_toArray, List.set_cons_zero, List.set_cons_succ])
  refine wpAnyF_ready (rs := [3, 4]) (by kernel_rfl) (by simp) ?_
  refine AllReadyF.cons (o := _) rfl (fun K hK => ?_) (AllReadyF.cons (o := _) rfl (fun K hK => ?_) AllReadyF.nil)
  · go_simp
    refine hK.out _ _ (HK.out _ ((hHeld.2).alloc hHeld.2.size _)) (fun hHeld3 => ?_)
    clear hK K
    (try simp only [Act.put, List.getElem_toArray, List.getElem_cons_succ, List.getElem_cons_zero, List.setIfInBounds_toArray, List.set_cons_zero, List.set_cons_succ])
    refine wpAnyF_ready (rs := [4]) (by kernel_rfl) (by simp) ?_
    refine AllReadyF.cons (o := _) rfl (fun K hK => ?_) AllReadyF.nil
    go_simp
    refine hK.out _ _ (HK.out _ ((hHeld3.2).alloc hHeld3.2.size _)) (fun hHeld4 => ?_)
    clear hK K
    (try simp only [Act.put, List.getElem_toArray, List.getElem_cons_succ, List.getElem_cons_zero, List.setIfInBounds_toArray, List.set_cons_zero, List.set_cons_succ])
    have h2 := two_at W0 (.cells #[.int .i64 0, .int .i64 0] 64) (.cells (zeros 32) 37)
    have HV : Hid (((W0.alloc (.cells #[.int .i64 0, .int .i64 0] 64)).alloc (.cells (zeros 32) 37)).drew.heap[W0.heap.size]? = some (.cells #[.int .i64 0, .int .i64 0] 64 (0, 0)) ∧ ((W0.alloc (.cells #[.int .i64 0, .int .i64 0] 64)).alloc (.cells (zeros 32) 37)).drew.heap[(W0.heap.size + 1)]? = some (.cells (zeros 32) 37 (0, 0)) ∧ Below W0.heap.size W0 ((W0.alloc (.cells #[.int .i64 0, .int .i64 0] 64)).alloc (.cells (zeros 32) 37)).drew) := Lib.hid ⟨h2.1, h2.2.1, h2.2.2.1.drew⟩
    clear h2
    refine wpAnyF_ready (rs := [5]) (by kernel_rfl) (by simp) ?_
    refine AllReadyF.cons (o := _) rfl (fun K hK => ?_) AllReadyF.nil
    rw [if_pos (by kernel_rfl)]
    refine wp_store_row 64 (.tmp 12) (.tmp 39) rfl W0.heap.size #[.int .i64 0, .int .i64 (k : Int)] rfl rfl _ _ HV.out.1 info_pl rfl (one_pl _ _) ?_
    refine hK.out _ _ (HK.out _ (below_setRow hHeld4.2 (by omega) _)) (fun hHeld5 => ?_)
    clear hK K
    (try simp only [Act.put, List.getElem_toArray, List.getElem_cons_succ, List.getElem_cons_zero, List.setIfInBounds_toArray, List.set_cons_zero, List.set_cons_succ])
    refine wpAnyF_ready (rs := [6]) (by kernel_rfl) (by simp) ?_
    refine AllReadyF.cons (o := _) rfl (fun K hK => ?_) AllReadyF.nil
    rw [if_pos (by kernel_rfl)]
    refine wp_store_row 37 (.tmp 13) (.tmp 40) rfl (W0.heap.size + 1) xd rfl rfl _ (zeros 32) ((setRow_other _ _ _ _ (by omega)).trans HV.out.2.1) HIX.out HZX.out HOX.out ?_
    refine hK.out _ _ (HK.out _ (below_setRow hHeld5.2 (by omega) _)) (fun hHeld6 => ?_)
    clear hK K
    (try simp only [Act.put, List.getElem_toArray, List.getElem_cons_succ, List.getElem_cons_zero, List.setIfInBounds_toArray, List.set_cons_zero, List.set_cons_succ])
    refine wpAnyF_done (by kernel_rfl) ?_ _
    have h3 := two_set (P := #[.int .i64 0, .int .i64 (k : Int)]) (X := xd) HV.out.2.2 HV.out.1 HV.out.2.1 (by omega) (by omega) (by omega)
    generalize hW3 : ((((W0.alloc (.cells #[.int .i64 0, .int .i64 0] 64)).alloc (.cells (zeros 32) 37)).drew.setRow W0.heap.size #[.int .i64 0, .int .i64 (k : Int)]).setRow (W0.heap.size + 1) xd) = W3 at h3
    have HW3 := Lib.hid hW3
    have HPQ : Hid (w.heap.size + 2 ≤ W0.heap.size ∧ w.heap.size + 2 ≤ (W0.heap.size + 1) ∧ W0.heap.size ≠ (W0.heap.size + 1)) := Lib.hid (by have := HS0.out; omega)
    have hbw3 : Below w.heap.size w W3 := HB0.out.trans (h3.2.2.mono HB0.out.size)
    have H0 : Hid (UpInv w b g k W0.heap.size (W0.heap.size + 1) S x ps m (.int .i64 0) W3) := Lib.hid ⟨0, rfl, by omega, (h3.2.2.block _ (by have := HS0.out; omega)).trans HR0.out, by rw [Nat.pow_zero, Nat.div_one]; exact h3.1, by rw [upS, ← HXD.out]; exact h3.2.1, Turns.of_below hbw3, S, Tx, sh, HBK.out.below hbw3, fun j hj => .inl hj, fun hj => by have := HSUB.out _ hj; omega, fun hj => by have := HSUB.out _ hj; have := HPQ.out; omega, fun hj => by have := HSUB.out _ hj; have := HPQ.out; omega⟩

    clear hW3 hHeld hHeld3 hHeld4 hHeld5 hHeld6 h3 hbw3 HK HV HW3 HS0 HB0 HR0 HP8 HW0 HBK
    generalize hq : (W0.heap.size + 1) = q at *
    generalize hp : W0.heap.size = p at *
    clear hp hq
    go_wp2_with fail
    go_loopw [43] (fun i W => UpInv w b g k p q S x ps m i W) (fun i _ => (m - intOf i).toNat)
    case atStart => exact H0.out
    case round =>
      obtain ⟨d, rfl, hd, hr, hp, hq, ht, S', Tx', sh', hb, hs', hsr, hsp, hsq⟩ := hrel
      by_cases hlt : d < m
      · obtain ⟨bb, oo, rfl, hbb, hrg⟩ := HDS.out.1 (by omega)
        have HRG := Lib.hid (range_of (ht.block bb hbb (HOFF.out _ rfl)) (hrg d hlt))
        have hyd := HDS.out.2 d
        have hsd := upS_dig (k := k) (ps := ps) HX.out d
        have hy32 : (dA (ps d)).size = 32 := by rw [rowV_size]
        have hsz32 : (dA (upS k x ps d)).size = 32 := by rw [rowV_size]
        have HIY := Lib.hid (info_dig hy32)
        have HIYL : Hid ((Try.prog.info? 37).map (·.size) = some (dA (ps d)).toList.length) := Lib.hid (by rw [Array.length_toList]; exact info_dig hy32)
        have HIS := Lib.hid (info_dig hsz32)
        have HOY : Hid ((dA (ps d)).all (·.oneCell') = true) := Lib.hid (dA_one _)
        have HOS : Hid ((dA (upS k x ps d)).all (·.oneCell') = true) := Lib.hid (dA_one _)
        have HZY : Hid ((zeros 32).size = (dA (ps d)).size) := Lib.hid (by rw [hy32]; simp [zeros])
        have HZS : Hid ((zeros 32).size = (dA (upS k x ps d)).size) := Lib.hid (by rw [hsz32]; simp [zeros])
        have HYD := Lib.hid hyd
        have HSD := Lib.hid hsd
        obtain ⟨W1, hW1⟩ : ∃ W1, W1 = (wr.alloc (.cells (zeros 32) 37)).setRow wr.heap.size (dA (ps d)) := ⟨_, rfl⟩
        have hbw : Below wr.heap.size wr W1 := by rw [hW1]; exact below_setRow ((Below.refl _ _).alloc (Nat.le_refl _) _) (Nat.le_refl _) _
        have h15 := heap_alloc_new wr (.cells (zeros 32) 37)
        have HP15 : Hid (W1.heap[wr.heap.size]? = some (.cells (dA (ps d)) 37 (0, 0))) := Lib.hid (by rw [hW1]; exact setRow_heap _ _ _ _ _ _ h15)
        have HRR1 := Lib.hid ((hbw.block _ (blk_lt hr)).trans hr)
        have HPP1 := Lib.hid ((hbw.block _ (blk_lt hp)).trans hp)
        have HQQ1 := Lib.hid ((hbw.block _ (blk_lt hq)).trans hq)
        have HBK1 := Lib.hid (hb.below hbw)
        have HT1 : Hid (Turns S w W1) := Lib.hid (ht.trans (S' := S) (Turns.of_below hbw) (fun _ _ z => z))
        have H15 := Lib.hid h15
        have HW1 := Lib.hid hW1
        have HSS := Lib.hid hs'
        have HSN : Hid (¬ S' (w.heap.size + 1) ∧ ¬ S' p ∧ ¬ S' q) := Lib.hid ⟨hsr, hsp, hsq⟩
        obtain ⟨yd, hydd⟩ : ∃ z, z = dA (ps d) := ⟨_, rfl⟩
        obtain ⟨sd, hsdd⟩ : ∃ z, z = dA (upS k x ps d) := ⟨_, rfl⟩
        have hxa : yd.toList.toArray = yd := by simp
        rw [← hydd] at HRG HIY HIYL HOY HZY HP15 HW1
        rw [← hsdd] at HIS HOS HZS HQQ1
        have HYDD := Lib.hid hydd
        have HSDD := Lib.hid hsdd
        have hm10' : d ≤ 10 := by omega
        clear hr hp hq ht hb hs' hsr hsp hsq hrg hyd hsd hy32 hsz32 hW1 hbw h15 hydd hsdd H0
        go_upto_region 7 with (first
          | (with_reducible refine wpList_load_mid rfl 37 (.tmp 45) rfl bb (oo + d * 32) rfl yd.toList _ HRG.out Try.underlying37 rfl HIYL.out ?_)
          | (with_reducible refine wpList_store_row rfl 37 (.tmp 15) (.tmp 46) rfl _ _ rfl (by simp [Act.eval, Act.put]) 37 _ H15.out HIY.out HZY.out HOY.out ?_))
        rw [← HW1.out]
        generalize hp15 : wr.heap.size = p15 at *
        have HK7 : Hid (∀ W, Below W1.heap.size W1 W → W.heap[q]? = some (.cells sd 37 (0, 0)) ∧ W.heap[p15]? = some (.cells yd 37 (0, 0)) ∧ Below W1.heap.size W1 W) := Lib.hid (fun W hW => ⟨(hW.block _ (blk_lt HQQ1.out)).trans HQQ1.out, (hW.block _ (blk_lt HP15.out)).trans HP15.out, hW⟩)
        refine wp_region_F (S := (fun W : World => W.heap[q]? = some (.cells sd 37 (0, 0)) ∧ W.heap[p15]? = some (.cells yd 37 (0, 0)) ∧ Below W1.heap.size W1 W)) [] (by kernel_rfl) (HK7.out _ ((Below.refl _ _).drew)) (fun hHeld => ?_)
        refine wpAnyF_take (i := 0) (oi := _) (v := _) rfl (by kernel_rfl) (by kernel_rfl) (by kernel_rfl) (by kernel_rfl) (fun _ _ _ h => h) (yields_rowU (by rfl) 37 (.tmp 13) rfl q 0 rfl sd _ (fun W h => range_cells h.1) Try.underlying37 rfl HIS.out) (by assumption) ?_
        (try simp only [Act.put, List.getElem_toArray, List.getElem_cons_succ, List.getElem_cons_zero, List.setIfInBounds_toArray, List.set_cons_zero, List.set_cons_succ])
        refine wpAnyF_take (i := 1) (oi := _) (v := _) rfl (by kernel_rfl) (by kernel_rfl) (by kernel_rfl) (by kernel_rfl) (fun _ _ _ h => h) (yields_rowU (by rfl) 37 (.tmp 15) rfl p15 0 rfl yd _ (fun W h => range_cells h.2.1) Try.underlying37 rfl HIY.out) (by assumption) ?_
        (try simp only [Act.put, List.getElem_toArray, List.getElem_cons_succ, List.getElem_cons_zero, List.setIfInBounds_toArray, List.set_cons_zero, List.set_cons_succ])
        refine wpAnyF_ready (rs := [2, 3]) (by kernel_rfl) (by simp) ?_
        refine AllReadyF.cons (o := _) rfl (fun K hK => ?_) (AllReadyF.cons (o := _) rfl (fun K hK => ?_) AllReadyF.nil)
        · go_simp
          refine hK.out _ _ (HK7.out _ ((hHeld.2.2).alloc hHeld.2.2.size _)) (fun hHeld2 => ?_)
          clear hK K
          (try simp only [Act.put, List.getElem_toArray, List.getElem_cons_succ, List.getElem_cons_zero, List.setIfInBounds_toArray, List.set_cons_zero, List.set_cons_succ])
          refine wpAnyF_ready (rs := [3]) (by kernel_rfl) (by simp) ?_
          refine AllReadyF.cons (o := _) rfl (fun K hK => ?_) AllReadyF.nil
          go_simp
          refine hK.out _ _ (HK7.out _ ((hHeld2.2.2).alloc hHeld2.2.2.size _)) (fun hHeld3 => ?_)
          clear hK K
          (try simp only [Act.put, List.getElem_toArray, List.getElem_cons_succ, List.getElem_cons_zero, List.setIfInBounds_toArray, List.set_cons_zero, List.set_cons_succ])
          have h2 := two_at W1 (.cells (zeros 32) 37) (.cells (zeros 32) 37)
          have HV : Hid (((W1.alloc (.cells (zeros 32) 37)).alloc (.cells (zeros 32) 37)).drew.heap[W1.heap.size]? = some (.cells (zeros 32) 37 (0, 0)) ∧ ((W1.alloc (.cells (zeros 32) 37)).alloc (.cells (zeros 32) 37)).drew.heap[(W1.heap.size + 1)]? = some (.cells (zeros 32) 37 (0, 0)) ∧ Below W1.heap.size W1 ((W1.alloc (.cells (zeros 32) 37)).alloc (.cells (zeros 32) 37)).drew) := Lib.hid ⟨h2.1, h2.2.1, h2.2.2.1.drew⟩
          clear h2
          refine wpAnyF_ready (rs := [4]) (by kernel_rfl) (by simp) ?_
          refine AllReadyF.cons (o := _) rfl (fun K hK => ?_) AllReadyF.nil
          rw [if_pos (by kernel_rfl)]
          refine wp_store_row 37 (.tmp 16) (.tmp 47) rfl W1.heap.size sd rfl rfl _ (zeros 32) HV.out.1 HIS.out HZS.out HOS.out ?_
          refine hK.out _ _ (HK7.out _ (below_setRow hHeld3.2.2 (by omega) _)) (fun hHeld4 => ?_)
          clear hK K
          (try simp only [Act.put, List.getElem_toArray, List.getElem_cons_succ, List.getElem_cons_zero, List.setIfInBounds_toArray, List.set_cons_zero, List.set_cons_succ])
          refine wpAnyF_ready (rs := [5]) (by kernel_rfl) (by simp) ?_
          refine AllReadyF.cons (o := _) rfl (fun K hK => ?_) AllReadyF.nil
          rw [if_pos (by kernel_rfl)]
          refine wp_store_row 37 (.tmp 17) (.tmp 48) rfl (W1.heap.size + 1) yd rfl rfl _ (zeros 32) ((setRow_other _ _ _ _ (by omega)).trans HV.out.2.1) HIY.out HZY.out HOY.out ?_
          refine hK.out _ _ (HK7.out _ (below_setRow hHeld4.2.2 (by omega) _)) (fun hHeld5 => ?_)
          clear hK K
          (try simp only [Act.put, List.getElem_toArray, List.getElem_cons_succ, List.getElem_cons_zero, List.setIfInBounds_toArray, List.set_cons_zero, List.set_cons_succ])
          refine wpAnyF_done (by kernel_rfl) ?_ _
          have h3 := two_set (P := sd) (X := yd) HV.out.2.2 HV.out.1 HV.out.2.1 (by omega) (by omega) (by omega)
          generalize hW2 : ((((W1.alloc (.cells (zeros 32) 37)).alloc (.cells (zeros 32) 37)).drew.setRow W1.heap.size sd).setRow (W1.heap.size + 1) yd) = W2 at h3
          have HR2 := Lib.hid ((h3.2.2.block _ (blk_lt HRR1.out)).trans HRR1.out)
          have HP2 := Lib.hid ((h3.2.2.block _ (blk_lt HPP1.out)).trans HPP1.out)
          have HQ2 := Lib.hid ((h3.2.2.block _ (blk_lt HQQ1.out)).trans HQQ1.out)
          have HBK2 := Lib.hid (HBK1.out.below h3.2.2)
          have HT2 : Hid (Turns S w W2) := Lib.hid (HT1.out.trans (S' := S) (Turns.of_below h3.2.2) (fun _ _ z => z))
          have HA2 := Lib.hid h3.1
          have HB2 := Lib.hid h3.2.1
          have HPQ2 : Hid (p < W1.heap.size ∧ q < W1.heap.size ∧ p < (W1.heap.size + 1) ∧ q < (W1.heap.size + 1) ∧ w.heap.size + 1 < W1.heap.size ∧ w.heap.size + 1 < (W1.heap.size + 1) ∧ W1.heap.size ≠ (W1.heap.size + 1)) := Lib.hid (by have := blk_lt HPP1.out; have := blk_lt HQQ1.out; have := blk_lt HRR1.out; omega)
          have HNP : Hid (¬ S' W1.heap.size ∧ ¬ S' (W1.heap.size + 1)) := Lib.hid ⟨fun z => by have := HBK1.out.sub z; omega, fun z => by have := HBK1.out.sub z; omega⟩
          have HLW : Hid (w.heap.size ≤ W1.heap.size ∧ w.heap.size ≤ (W1.heap.size + 1)) := Lib.hid (by have := HT1.out.size; omega)
          clear hW2 hHeld hHeld2 hHeld3 hHeld4 hHeld5 h3 HK7 HV HP15 HRR1 HPP1 HQQ1 HBK1 HT1
          generalize hq7 : (W1.heap.size + 1) = a17 at *
          generalize hp7 : W1.heap.size = a16 at *
          clear hp7 hq7
          obtain ⟨kd, hkd⟩ : ∃ kd, kd = k / 2 ^ d := ⟨_, rfl⟩
          have hkdb : kd ≤ 1024 := by rw [hkd]; exact Nat.le_trans (Nat.div_le_self _ _) (by omega)
          have HKD := Lib.hid hkd
          rw [← hkd] at HP2
          have c0 := blk_cell HP2.out 0
          have c1 := blk_cell HP2.out 1
          simp only [List.getElem?_toArray, List.getElem?_cons_zero, List.getElem?_cons_succ] at c0 c1
          have HRT := Lib.hid (fun W => right_any d kd (by omega) W)
          have HAB := Lib.hid (fun W => above_any d kd (by omega) (by omega) W)
          clear hkd hxa
          by_cases hpar : kd % 2 = 1
          · have hpb : (kd % 2 == 1) = true := by rw [beq_iff_eq]; exact hpar
            rw [hpb] at HRT
            go_wp2_with fail
            refine (HRT.out _).mono ?_
            rintro e w4 ⟨rfl, hb4⟩
            have HA4 := Lib.hid ((hb4.block _ (blk_lt HA2.out)).trans HA2.out)
            have HB4 := Lib.hid ((hb4.block _ (blk_lt HB2.out)).trans HB2.out)
            have HBK4 := Lib.hid (HBK2.out.below hb4)
            have HT4 : Hid (Turns S w w4) := Lib.hid (HT2.out.trans (S' := S) (Turns.of_below hb4) (fun _ _ z => z))
            obtain ⟨W5, hW5⟩ : ∃ W5, W5 = (w4.setRow a16 yd).setRow a17 sd := ⟨_, rfl⟩
            have h5 : ∀ j, j ≠ a16 → j ≠ a17 → W5.heap[j]? = w4.heap[j]? := fun j h1 h2 => by rw [hW5]; exact (setRow_other _ _ _ _ h2).trans (setRow_other _ _ _ _ h1)
            have HA5 : Hid (W5.heap[a16]? = some (.cells yd 37 (0, 0))) := Lib.hid (by rw [hW5]; exact (setRow_other _ _ _ _ (by have := HPQ2.out; omega)).trans (setRow_heap _ _ _ _ _ _ HA4.out))
            have HB5 : Hid (W5.heap[a17]? = some (.cells sd 37 (0, 0))) := Lib.hid (by rw [hW5]; exact setRow_heap _ _ _ _ _ _ ((setRow_other _ _ _ _ (by have := HPQ2.out; omega)).trans HB4.out))
            have HP5 := Lib.hid ((h5 p (by have := HPQ2.out; omega) (by have := HPQ2.out; omega)).trans ((hb4.block _ (blk_lt HP2.out)).trans HP2.out))
            have HQ5 := Lib.hid ((h5 q (by have := HPQ2.out; omega) (by have := HPQ2.out; omega)).trans ((hb4.block _ (blk_lt HQ2.out)).trans HQ2.out))
            have HR5 := Lib.hid ((h5 (w.heap.size + 1) (by have := HPQ2.out; omega) (by have := HPQ2.out; omega)).trans ((hb4.block _ (blk_lt HR2.out)).trans HR2.out))
            have HBK5 : Hid (IsBook W5 b g S' Tx' sh') := Lib.hid (by rw [hW5]; exact bk_setRow (bk_setRow HBK4.out HNP.out.1 _) HNP.out.2 _)
            have HT5 : Hid (Turns S w W5) := Lib.hid (by rw [hW5]; exact tS_setRow (tS_setRow HT4.out HLW.out.1 _) HLW.out.2 _)
            have HSY : Hid (sd.size = yd.size) := Lib.hid (HZS.out.symm.trans HZY.out)
            have HYS : Hid (yd.size = sd.size) := Lib.hid HSY.out.symm
            have HBX : Hid ((w4.setRow a16 yd).heap[a17]? = some (.cells yd 37 (0, 0))) := Lib.hid ((setRow_other _ _ _ _ (by have := HPQ2.out; omega)).trans HB4.out)
            have HW5 := Lib.hid hW5
            clear hW5 h5 hb4 c0 c1
            have c0 := blk_cell HP5.out 0
            have c1 := blk_cell HP5.out 1
            simp only [List.getElem?_toArray, List.getElem?_cons_zero, List.getElem?_cons_succ] at c0 c1
            go_wp2_with (first
              | (with_reducible refine wpList_load_row rfl 37 (.tmp 17) rfl _ rfl 37 _ _ _ HB4.out Try.underlying37 rfl HIY.out ?_)
              | (with_reducible refine wpList_load_row rfl 37 (.tmp 16) rfl _ rfl 37 _ _ _ HA4.out Try.underlying37 rfl HIS.out ?_)
              | (with_reducible refine wpList_store_row rfl 37 (.tmp 16) (.tmp 51) rfl _ _ rfl rfl 37 _ HA4.out HIY.out HSY.out HOY.out ?_)
              | (with_reducible refine wpList_store_row rfl 37 (.tmp 17) (.tmp 52) rfl _ _ rfl rfl 37 _ HBX.out HIS.out HYS.out HOS.out ?_; rw [← HW5.out]))
            refine (HAB.out _).mono ?_
            rintro e w6 ⟨rfl, hb6⟩
            have HA6 := Lib.hid ((hb6.block _ (blk_lt HA5.out)).trans HA5.out)
            have HB6 := Lib.hid ((hb6.block _ (blk_lt HB5.out)).trans HB5.out)
            have HP6 := Lib.hid ((hb6.block _ (blk_lt HP5.out)).trans HP5.out)
            have HQ6 := Lib.hid ((hb6.block _ (blk_lt HQ5.out)).trans HQ5.out)
            have HR6 := Lib.hid ((hb6.block _ (blk_lt HR5.out)).trans HR5.out)
            have HBK6 := Lib.hid (HBK5.out.below hb6)
            have HT6 : Hid (Turns S w w6) := Lib.hid (HT5.out.trans (S' := S) (Turns.of_below hb6) (fun _ _ z => z))
            clear hb6 c0 c1
            obtain ⟨W7, hW7⟩ : ∃ W7, W7 = w6.setRow p #[.int .i64 ((d : Int) + 1), .int .i64 ((kd : Int) / 2)] := ⟨_, rfl⟩
            have HA7 : Hid (W7.heap[a16]? = some (.cells yd 37 (0, 0))) := Lib.hid (by rw [hW7]; exact (setRow_other _ _ _ _ (by have := HPQ2.out; omega)).trans HA6.out)
            have HB7 : Hid (W7.heap[a17]? = some (.cells sd 37 (0, 0))) := Lib.hid (by rw [hW7]; exact (setRow_other _ _ _ _ (by have := HPQ2.out; omega)).trans HB6.out)
            have HP7 : Hid (W7.heap[p]? = some (.cells #[.int .i64 ((d : Int) + 1), .int .i64 ((kd : Int) / 2)] 64 (0, 0))) := Lib.hid (by rw [hW7]; exact setRow_heap _ _ _ _ _ _ HP6.out)
            have HQ7 : Hid (W7.heap[q]? = some (.cells sd 37 (0, 0))) := Lib.hid (by rw [hW7]; exact (setRow_other _ _ _ _ (by have := HPQ.out; omega)).trans HQ6.out)
            have HR7 : Hid (W7.heap[w.heap.size + 1]? = some (.cells (zeros 32) 37 (0, 0))) := Lib.hid (by rw [hW7]; exact (setRow_other _ _ _ _ (by have := HPQ.out; omega)).trans HR6.out)
            have HBK7 : Hid (IsBook W7 b g S' Tx' sh') := Lib.hid (by rw [hW7]; exact bk_setRow HBK6.out HSN.out.2.1 _)
            have HT7 : Hid (Turns S w W7) := Lib.hid (by rw [hW7]; exact tS_setRow HT6.out (by have := HPQ.out; omega) _)
            have HPS := Lib.hid (psum_any b g (d + 1) (kd / 2) (ps d) (upS k x ps d) S' Tx' sh' W7 HBK7.out (by omega) (by omega) HYD.out HSD.out)
            rw [Int.natCast_add, Int.natCast_ediv, Int.natCast_one, show ((2 : Nat) : Int) = 2 from rfl] at HPS
            rw [← HYDD.out, ← HSDD.out] at HPS
            obtain ⟨da, hda⟩ : ∃ z, z = digA (txt 1 [putL 1 (d + 1), putL 4 (kd / 2), (ps d), (upS k x ps d)]) := ⟨_, rfl⟩
            have hda2 : da.size = 32 := by rw [hda]; unfold digA; rw [rowV_size]
            have HIA := Lib.hid (info_dig hda2)
            have HOA : Hid (da.all (·.oneCell') = true) := Lib.hid (by rw [hda]; exact one_dig _)
            have HZA : Hid (sd.size = da.size) := Lib.hid (by rw [hda2, ← HZS.out]; simp [zeros])
            have HDA := Lib.hid hda
            have hUP : da = dA (upS k x ps (d + 1)) := by
              rw [hda, upS, ← HKD.out]
              have e1 : k / 2 ^ (d + 1) = kd / 2 := by rw [HKD.out, Nat.pow_succ, Nat.div_div_eq_div_mul]
              rw [e1, if_pos hpar, if_pos hpar]
              rfl
            have HUP := Lib.hid hUP
            have HW7 := Lib.hid hW7
            have HKE : Hid (kd / 2 = k / 2 ^ (d + 1)) := Lib.hid (by rw [HKD.out, Nat.pow_succ, Nat.div_div_eq_div_mul])
            clear hW7 hda hda2 hUP
            have c0 := blk_cell HP7.out 0
            have c1 := blk_cell HP7.out 1
            simp only [List.getElem?_toArray, List.getElem?_cons_zero, List.getElem?_cons_succ] at c0 c1
            go_wp2_with (first
              | (with_reducible refine wpList_store_row rfl 64 (.tmp 12) (.tmp 54) rfl _ _ rfl rfl 64 _ HP6.out (info_pl2 _ _) (sz_pl _ _ _ _) (one_pl _ _) ?_; rw [← HW7.out])
              | (with_reducible refine wpList_load_row rfl 37 (.tmp 16) rfl _ rfl 37 _ _ _ HA7.out Try.underlying37 rfl HIY.out ?_)
              | (with_reducible refine wpList_load_row rfl 37 (.tmp 17) rfl _ rfl 37 _ _ _ HB7.out Try.underlying37 rfl HIS.out ?_))
            refine (HPS.out).mono ?_
            rintro e w8 ⟨he, ht8, hb8⟩
            rw [← HDA.out] at he
            subst he
            have HQ8 := Lib.hid (turnsU ht8 HSN.out.2.2 HQ7.out)
            have HT8 : Hid (Turns S w w8) := Lib.hid (HT7.out.trans (S' := S') ht8 (fun j hj hj' => (HSS.out j hj').elim id (fun c => by omega)))
            have HR8 := turnsU ht8 HSN.out.1 HR7.out
            have HP8 := turnsU ht8 HSN.out.2.1 HP7.out
            have hlp := blk_lt HP7.out
            have hlq := blk_lt HQ7.out
            have hlr := blk_lt HR7.out
            have hsz7 := HT7.out.size
            obtain ⟨W9, hW9⟩ : ∃ W9, W9 = w8.setRow q da := ⟨_, rfl⟩
            have H9 : Hid (UpInv w b g k p q S x ps m (.int .i64 ((d : Int) + 1)) W9) := Lib.hid (by
              rw [hW9]
              refine ⟨d + 1, rfl, hlt, (setRow_other _ _ _ _ (by have := HPQ.out; omega)).trans HR8, ?_, ?_, tS_setRow HT8.out (by have := HPQ.out; omega) _, _, _, _, bk_setRow hb8 (fun z => z.elim HSN.out.2.2 (fun c => by omega)) _, fun j hj => hj.elim (HSS.out j) (fun c => .inr (by omega)), fun z => z.elim HSN.out.1 (fun c => by omega), fun z => z.elim HSN.out.2.1 (fun c => by omega), fun z => z.elim HSN.out.2.2 (fun c => by omega)⟩
              · rw [← HKE.out, Int.natCast_add, Int.natCast_ediv]
                exact (setRow_other _ _ _ _ (by have := HPQ.out; omega)).trans HP8
              · rw [← HUP.out]
                exact setRow_heap _ _ _ _ _ _ HQ8.out)
            have HW9 := Lib.hid hW9
            clear ht8 hb8 HR8 HP8 hlp hlq hlr hsz7 hW9
            go_wp2_with (with_reducible refine wpList_store_row rfl 37 (.tmp 13) (.tmp 59) rfl _ _ rfl rfl 37 _ HQ8.out HIA.out HZA.out HOA.out ?_; rw [← HW9.out])
            go_roundw
            case rel => exact H9.out
            case measure => simp [intOf]; omega
          · have hpb : (kd % 2 == 1) = false := by rw [beq_eq_false_iff_ne]; exact hpar
            rw [hpb] at HRT
            go_wp2_with fail
            refine (HRT.out _).mono ?_
            rintro e w4 ⟨rfl, hb4⟩
            have HA5 := Lib.hid ((hb4.block _ (blk_lt HA2.out)).trans HA2.out)
            have HB5 := Lib.hid ((hb4.block _ (blk_lt HB2.out)).trans HB2.out)
            have HP5 := Lib.hid ((hb4.block _ (blk_lt HP2.out)).trans HP2.out)
            have HQ5 := Lib.hid ((hb4.block _ (blk_lt HQ2.out)).trans HQ2.out)
            have HR5 := Lib.hid ((hb4.block _ (blk_lt HR2.out)).trans HR2.out)
            have HBK5 := Lib.hid (HBK2.out.below hb4)
            have HT5 : Hid (Turns S w w4) := Lib.hid (HT2.out.trans (S' := S) (Turns.of_below hb4) (fun _ _ z => z))
            clear hb4 c0 c1
            have c0 := blk_cell HP5.out 0
            have c1 := blk_cell HP5.out 1
            simp only [List.getElem?_toArray, List.getElem?_cons_zero, List.getElem?_cons_succ] at c0 c1
            go_wp2_with fail
            refine (HAB.out _).mono ?_
            rintro e w6 ⟨rfl, hb6⟩
            have HA6 := Lib.hid ((hb6.block _ (blk_lt HA5.out)).trans HA5.out)
            have HB6 := Lib.hid ((hb6.block _ (blk_lt HB5.out)).trans HB5.out)
            have HP6 := Lib.hid ((hb6.block _ (blk_lt HP5.out)).trans HP5.out)
            have HQ6 := Lib.hid ((hb6.block _ (blk_lt HQ5.out)).trans HQ5.out)
            have HR6 := Lib.hid ((hb6.block _ (blk_lt HR5.out)).trans HR5.out)
            have HBK6 := Lib.hid (HBK5.out.below hb6)
            have HT6 : Hid (Turns S w w6) := Lib.hid (HT5.out.trans (S' := S) (Turns.of_below hb6) (fun _ _ z => z))
            clear hb6 c0 c1
            obtain ⟨W7, hW7⟩ : ∃ W7, W7 = w6.setRow p #[.int .i64 ((d : Int) + 1), .int .i64 ((kd : Int) / 2)] := ⟨_, rfl⟩
            have HA7 : Hid (W7.heap[a16]? = some (.cells sd 37 (0, 0))) := Lib.hid (by rw [hW7]; exact (setRow_other _ _ _ _ (by have := HPQ2.out; omega)).trans HA6.out)
            have HB7 : Hid (W7.heap[a17]? = some (.cells yd 37 (0, 0))) := Lib.hid (by rw [hW7]; exact (setRow_other _ _ _ _ (by have := HPQ2.out; omega)).trans HB6.out)
            have HP7 : Hid (W7.heap[p]? = some (.cells #[.int .i64 ((d : Int) + 1), .int .i64 ((kd : Int) / 2)] 64 (0, 0))) := Lib.hid (by rw [hW7]; exact setRow_heap _ _ _ _ _ _ HP6.out)
            have HQ7 : Hid (W7.heap[q]? = some (.cells sd 37 (0, 0))) := Lib.hid (by rw [hW7]; exact (setRow_other _ _ _ _ (by have := HPQ.out; omega)).trans HQ6.out)
            have HR7 : Hid (W7.heap[w.heap.size + 1]? = some (.cells (zeros 32) 37 (0, 0))) := Lib.hid (by rw [hW7]; exact (setRow_other _ _ _ _ (by have := HPQ.out; omega)).trans HR6.out)
            have HBK7 : Hid (IsBook W7 b g S' Tx' sh') := Lib.hid (by rw [hW7]; exact bk_setRow HBK6.out HSN.out.2.1 _)
            have HT7 : Hid (Turns S w W7) := Lib.hid (by rw [hW7]; exact tS_setRow HT6.out (by have := HPQ.out; omega) _)
            have HPS := Lib.hid (psum_any b g (d + 1) (kd / 2) (upS k x ps d) (ps d) S' Tx' sh' W7 HBK7.out (by omega) (by omega) HSD.out HYD.out)
            rw [Int.natCast_add, Int.natCast_ediv, Int.natCast_one, show ((2 : Nat) : Int) = 2 from rfl] at HPS
            rw [← HSDD.out, ← HYDD.out] at HPS
            obtain ⟨da, hda⟩ : ∃ z, z = digA (txt 1 [putL 1 (d + 1), putL 4 (kd / 2), (upS k x ps d), (ps d)]) := ⟨_, rfl⟩
            have hda2 : da.size = 32 := by rw [hda]; unfold digA; rw [rowV_size]
            have HIA := Lib.hid (info_dig hda2)
            have HOA : Hid (da.all (·.oneCell') = true) := Lib.hid (by rw [hda]; exact one_dig _)
            have HZA : Hid (sd.size = da.size) := Lib.hid (by rw [hda2, ← HZS.out]; simp [zeros])
            have HDA := Lib.hid hda
            have hUP : da = dA (upS k x ps (d + 1)) := by
              rw [hda, upS, ← HKD.out]
              have e1 : k / 2 ^ (d + 1) = kd / 2 := by rw [HKD.out, Nat.pow_succ, Nat.div_div_eq_div_mul]
              rw [e1, if_neg hpar, if_neg hpar]
              rfl
            have HUP := Lib.hid hUP
            have HW7 := Lib.hid hW7
            have HKE : Hid (kd / 2 = k / 2 ^ (d + 1)) := Lib.hid (by rw [HKD.out, Nat.pow_succ, Nat.div_div_eq_div_mul])
            clear hW7 hda hda2 hUP
            have c0 := blk_cell HP7.out 0
            have c1 := blk_cell HP7.out 1
            simp only [List.getElem?_toArray, List.getElem?_cons_zero, List.getElem?_cons_succ] at c0 c1
            go_wp2_with (first
              | (with_reducible refine wpList_store_row rfl 64 (.tmp 12) (.tmp 54) rfl _ _ rfl rfl 64 _ HP6.out (info_pl2 _ _) (sz_pl _ _ _ _) (one_pl _ _) ?_; rw [← HW7.out])
              | (with_reducible refine wpList_load_row rfl 37 (.tmp 16) rfl _ rfl 37 _ _ _ HA7.out Try.underlying37 rfl HIS.out ?_)
              | (with_reducible refine wpList_load_row rfl 37 (.tmp 17) rfl _ rfl 37 _ _ _ HB7.out Try.underlying37 rfl HIY.out ?_))
            refine (HPS.out).mono ?_
            rintro e w8 ⟨he, ht8, hb8⟩
            rw [← HDA.out] at he
            subst he
            have HQ8 := Lib.hid (turnsU ht8 HSN.out.2.2 HQ7.out)
            have HT8 : Hid (Turns S w w8) := Lib.hid (HT7.out.trans (S' := S') ht8 (fun j hj hj' => (HSS.out j hj').elim id (fun c => by omega)))
            have HR8 := turnsU ht8 HSN.out.1 HR7.out
            have HP8 := turnsU ht8 HSN.out.2.1 HP7.out
            have hlp := blk_lt HP7.out
            have hlq := blk_lt HQ7.out
            have hlr := blk_lt HR7.out
            have hsz7 := HT7.out.size
            obtain ⟨W9, hW9⟩ : ∃ W9, W9 = w8.setRow q da := ⟨_, rfl⟩
            have H9 : Hid (UpInv w b g k p q S x ps m (.int .i64 ((d : Int) + 1)) W9) := Lib.hid (by
              rw [hW9]
              refine ⟨d + 1, rfl, hlt, (setRow_other _ _ _ _ (by have := HPQ.out; omega)).trans HR8, ?_, ?_, tS_setRow HT8.out (by have := HPQ.out; omega) _, _, _, _, bk_setRow hb8 (fun z => z.elim HSN.out.2.2 (fun c => by omega)) _, fun j hj => hj.elim (HSS.out j) (fun c => .inr (by omega)), fun z => z.elim HSN.out.1 (fun c => by omega), fun z => z.elim HSN.out.2.1 (fun c => by omega), fun z => z.elim HSN.out.2.2 (fun c => by omega)⟩
              · rw [← HKE.out, Int.natCast_add, Int.natCast_ediv]
                exact (setRow_other _ _ _ _ (by have := HPQ.out; omega)).trans HP8
              · rw [← HUP.out]
                exact setRow_heap _ _ _ _ _ _ HQ8.out)
            have HW9 := Lib.hid hW9
            clear ht8 hb8 HR8 HP8 hlp hlq hlr hsz7 hW9
            go_wp2_with (with_reducible refine wpList_store_row rfl 37 (.tmp 13) (.tmp 59) rfl _ _ rfl rfl 37 _ HQ8.out HIA.out HZA.out HOA.out ?_; rw [← HW9.out])
            go_roundw
            case rel => exact H9.out
            case measure => simp [intOf]; omega
        · go_simp
          refine hK.out _ _ (HK7.out _ ((hHeld.2.2).alloc hHeld.2.2.size _)) (fun hHeld3 => ?_)
          clear hK K
          (try simp only [Act.put, List.getElem_toArray, List.getElem_cons_succ, List.getElem_cons_zero, List.setIfInBounds_toArray, List.set_cons_zero, List.set_cons_succ])
          refine wpAnyF_ready (rs := [2]) (by kernel_rfl) (by simp) ?_
          refine AllReadyF.cons (o := _) rfl (fun K hK => ?_) AllReadyF.nil
          go_simp
          refine hK.out _ _ (HK7.out _ ((hHeld3.2.2).alloc hHeld3.2.2.size _)) (fun hHeld2 => ?_)
          clear hK K
          (try simp only [Act.put, List.getElem_toArray, List.getElem_cons_succ, List.getElem_cons_zero, List.setIfInBounds_toArray, List.set_cons_zero, List.set_cons_succ])
          have h2 := two_at W1 (.cells (zeros 32) 37) (.cells (zeros 32) 37)
          have HV : Hid (((W1.alloc (.cells (zeros 32) 37)).alloc (.cells (zeros 32) 37)).drew.heap[(W1.heap.size + 1)]? = some (.cells (zeros 32) 37 (0, 0)) ∧ ((W1.alloc (.cells (zeros 32) 37)).alloc (.cells (zeros 32) 37)).drew.heap[W1.heap.size]? = some (.cells (zeros 32) 37 (0, 0)) ∧ Below W1.heap.size W1 ((W1.alloc (.cells (zeros 32) 37)).alloc (.cells (zeros 32) 37)).drew) := Lib.hid ⟨h2.2.1, h2.1, h2.2.2.1.drew⟩
          clear h2
          refine wpAnyF_ready (rs := [4]) (by kernel_rfl) (by simp) ?_
          refine AllReadyF.cons (o := _) rfl (fun K hK => ?_) AllReadyF.nil
          rw [if_pos (by kernel_rfl)]
          refine wp_store_row 37 (.tmp 16) (.tmp 47) rfl (W1.heap.size + 1) sd rfl rfl _ (zeros 32) HV.out.1 HIS.out HZS.out HOS.out ?_
          refine hK.out _ _ (HK7.out _ (below_setRow hHeld2.2.2 (by omega) _)) (fun hHeld4 => ?_)
          clear hK K
          (try simp only [Act.put, List.getElem_toArray, List.getElem_cons_succ, List.getElem_cons_zero, List.setIfInBounds_toArray, List.set_cons_zero, List.set_cons_succ])
          refine wpAnyF_ready (rs := [5]) (by kernel_rfl) (by simp) ?_
          refine AllReadyF.cons (o := _) rfl (fun K hK => ?_) AllReadyF.nil
          rw [if_pos (by kernel_rfl)]
          refine wp_store_row 37 (.tmp 17) (.tmp 48) rfl W1.heap.size yd rfl rfl _ (zeros 32) ((setRow_other _ _ _ _ (by omega)).trans HV.out.2.1) HIY.out HZY.out HOY.out ?_
          refine hK.out _ _ (HK7.out _ (below_setRow hHeld4.2.2 (by omega) _)) (fun hHeld5 => ?_)
          clear hK K
          (try simp only [Act.put, List.getElem_toArray, List.getElem_cons_succ, List.getElem_cons_zero, List.setIfInBounds_toArray, List.set_cons_zero, List.set_cons_succ])
          refine wpAnyF_done (by kernel_rfl) ?_ _
          have h3 := two_set (P := sd) (X := yd) HV.out.2.2 HV.out.1 HV.out.2.1 (by omega) (by omega) (by omega)
          generalize hW2 : ((((W1.alloc (.cells (zeros 32) 37)).alloc (.cells (zeros 32) 37)).drew.setRow (W1.heap.size + 1) sd).setRow W1.heap.size yd) = W2 at h3
          have HR2 := Lib.hid ((h3.2.2.block _ (blk_lt HRR1.out)).trans HRR1.out)
          have HP2 := Lib.hid ((h3.2.2.block _ (blk_lt HPP1.out)).trans HPP1.out)
          have HQ2 := Lib.hid ((h3.2.2.block _ (blk_lt HQQ1.out)).trans HQQ1.out)
          have HBK2 := Lib.hid (HBK1.out.below h3.2.2)
          have HT2 : Hid (Turns S w W2) := Lib.hid (HT1.out.trans (S' := S) (Turns.of_below h3.2.2) (fun _ _ z => z))
          have HA2 := Lib.hid h3.1
          have HB2 := Lib.hid h3.2.1
          have HPQ2 : Hid (p < (W1.heap.size + 1) ∧ q < (W1.heap.size + 1) ∧ p < W1.heap.size ∧ q < W1.heap.size ∧ w.heap.size + 1 < (W1.heap.size + 1) ∧ w.heap.size + 1 < W1.heap.size ∧ (W1.heap.size + 1) ≠ W1.heap.size) := Lib.hid (by have := blk_lt HPP1.out; have := blk_lt HQQ1.out; have := blk_lt HRR1.out; omega)
          have HNP : Hid (¬ S' (W1.heap.size + 1) ∧ ¬ S' W1.heap.size) := Lib.hid ⟨fun z => by have := HBK1.out.sub z; omega, fun z => by have := HBK1.out.sub z; omega⟩
          have HLW : Hid (w.heap.size ≤ (W1.heap.size + 1) ∧ w.heap.size ≤ W1.heap.size) := Lib.hid (by have := HT1.out.size; omega)
          clear hW2 hHeld hHeld2 hHeld3 hHeld4 hHeld5 h3 HK7 HV HP15 HRR1 HPP1 HQQ1 HBK1 HT1
          generalize hp7 : (W1.heap.size + 1) = a16 at *
          generalize hq7 : W1.heap.size = a17 at *
          clear hp7 hq7
          obtain ⟨kd, hkd⟩ : ∃ kd, kd = k / 2 ^ d := ⟨_, rfl⟩
          have hkdb : kd ≤ 1024 := by rw [hkd]; exact Nat.le_trans (Nat.div_le_self _ _) (by omega)
          have HKD := Lib.hid hkd
          rw [← hkd] at HP2
          have c0 := blk_cell HP2.out 0
          have c1 := blk_cell HP2.out 1
          simp only [List.getElem?_toArray, List.getElem?_cons_zero, List.getElem?_cons_succ] at c0 c1
          have HRT := Lib.hid (fun W => right_any d kd (by omega) W)
          have HAB := Lib.hid (fun W => above_any d kd (by omega) (by omega) W)
          clear hkd hxa
          by_cases hpar : kd % 2 = 1
          · have hpb : (kd % 2 == 1) = true := by rw [beq_iff_eq]; exact hpar
            rw [hpb] at HRT
            go_wp2_with fail
            refine (HRT.out _).mono ?_
            rintro e w4 ⟨rfl, hb4⟩
            have HA4 := Lib.hid ((hb4.block _ (blk_lt HA2.out)).trans HA2.out)
            have HB4 := Lib.hid ((hb4.block _ (blk_lt HB2.out)).trans HB2.out)
            have HBK4 := Lib.hid (HBK2.out.below hb4)
            have HT4 : Hid (Turns S w w4) := Lib.hid (HT2.out.trans (S' := S) (Turns.of_below hb4) (fun _ _ z => z))
            obtain ⟨W5, hW5⟩ : ∃ W5, W5 = (w4.setRow a16 yd).setRow a17 sd := ⟨_, rfl⟩
            have h5 : ∀ j, j ≠ a16 → j ≠ a17 → W5.heap[j]? = w4.heap[j]? := fun j h1 h2 => by rw [hW5]; exact (setRow_other _ _ _ _ h2).trans (setRow_other _ _ _ _ h1)
            have HA5 : Hid (W5.heap[a16]? = some (.cells yd 37 (0, 0))) := Lib.hid (by rw [hW5]; exact (setRow_other _ _ _ _ (by have := HPQ2.out; omega)).trans (setRow_heap _ _ _ _ _ _ HA4.out))
            have HB5 : Hid (W5.heap[a17]? = some (.cells sd 37 (0, 0))) := Lib.hid (by rw [hW5]; exact setRow_heap _ _ _ _ _ _ ((setRow_other _ _ _ _ (by have := HPQ2.out; omega)).trans HB4.out))
            have HP5 := Lib.hid ((h5 p (by have := HPQ2.out; omega) (by have := HPQ2.out; omega)).trans ((hb4.block _ (blk_lt HP2.out)).trans HP2.out))
            have HQ5 := Lib.hid ((h5 q (by have := HPQ2.out; omega) (by have := HPQ2.out; omega)).trans ((hb4.block _ (blk_lt HQ2.out)).trans HQ2.out))
            have HR5 := Lib.hid ((h5 (w.heap.size + 1) (by have := HPQ2.out; omega) (by have := HPQ2.out; omega)).trans ((hb4.block _ (blk_lt HR2.out)).trans HR2.out))
            have HBK5 : Hid (IsBook W5 b g S' Tx' sh') := Lib.hid (by rw [hW5]; exact bk_setRow (bk_setRow HBK4.out HNP.out.1 _) HNP.out.2 _)
            have HT5 : Hid (Turns S w W5) := Lib.hid (by rw [hW5]; exact tS_setRow (tS_setRow HT4.out HLW.out.1 _) HLW.out.2 _)
            have HSY : Hid (sd.size = yd.size) := Lib.hid (HZS.out.symm.trans HZY.out)
            have HYS : Hid (yd.size = sd.size) := Lib.hid HSY.out.symm
            have HBX : Hid ((w4.setRow a16 yd).heap[a17]? = some (.cells yd 37 (0, 0))) := Lib.hid ((setRow_other _ _ _ _ (by have := HPQ2.out; omega)).trans HB4.out)
            have HW5 := Lib.hid hW5
            clear hW5 h5 hb4 c0 c1
            have c0 := blk_cell HP5.out 0
            have c1 := blk_cell HP5.out 1
            simp only [List.getElem?_toArray, List.getElem?_cons_zero, List.getElem?_cons_succ] at c0 c1
            go_wp2_with (first
              | (with_reducible refine wpList_load_row rfl 37 (.tmp 17) rfl _ rfl 37 _ _ _ HB4.out Try.underlying37 rfl HIY.out ?_)
              | (with_reducible refine wpList_load_row rfl 37 (.tmp 16) rfl _ rfl 37 _ _ _ HA4.out Try.underlying37 rfl HIS.out ?_)
              | (with_reducible refine wpList_store_row rfl 37 (.tmp 16) (.tmp 51) rfl _ _ rfl rfl 37 _ HA4.out HIY.out HSY.out HOY.out ?_)
              | (with_reducible refine wpList_store_row rfl 37 (.tmp 17) (.tmp 52) rfl _ _ rfl rfl 37 _ HBX.out HIS.out HYS.out HOS.out ?_; rw [← HW5.out]))
            refine (HAB.out _).mono ?_
            rintro e w6 ⟨rfl, hb6⟩
            have HA6 := Lib.hid ((hb6.block _ (blk_lt HA5.out)).trans HA5.out)
            have HB6 := Lib.hid ((hb6.block _ (blk_lt HB5.out)).trans HB5.out)
            have HP6 := Lib.hid ((hb6.block _ (blk_lt HP5.out)).trans HP5.out)
            have HQ6 := Lib.hid ((hb6.block _ (blk_lt HQ5.out)).trans HQ5.out)
            have HR6 := Lib.hid ((hb6.block _ (blk_lt HR5.out)).trans HR5.out)
            have HBK6 := Lib.hid (HBK5.out.below hb6)
            have HT6 : Hid (Turns S w w6) := Lib.hid (HT5.out.trans (S' := S) (Turns.of_below hb6) (fun _ _ z => z))
            clear hb6 c0 c1
            obtain ⟨W7, hW7⟩ : ∃ W7, W7 = w6.setRow p #[.int .i64 ((d : Int) + 1), .int .i64 ((kd : Int) / 2)] := ⟨_, rfl⟩
            have HA7 : Hid (W7.heap[a16]? = some (.cells yd 37 (0, 0))) := Lib.hid (by rw [hW7]; exact (setRow_other _ _ _ _ (by have := HPQ2.out; omega)).trans HA6.out)
            have HB7 : Hid (W7.heap[a17]? = some (.cells sd 37 (0, 0))) := Lib.hid (by rw [hW7]; exact (setRow_other _ _ _ _ (by have := HPQ2.out; omega)).trans HB6.out)
            have HP7 : Hid (W7.heap[p]? = some (.cells #[.int .i64 ((d : Int) + 1), .int .i64 ((kd : Int) / 2)] 64 (0, 0))) := Lib.hid (by rw [hW7]; exact setRow_heap _ _ _ _ _ _ HP6.out)
            have HQ7 : Hid (W7.heap[q]? = some (.cells sd 37 (0, 0))) := Lib.hid (by rw [hW7]; exact (setRow_other _ _ _ _ (by have := HPQ.out; omega)).trans HQ6.out)
            have HR7 : Hid (W7.heap[w.heap.size + 1]? = some (.cells (zeros 32) 37 (0, 0))) := Lib.hid (by rw [hW7]; exact (setRow_other _ _ _ _ (by have := HPQ.out; omega)).trans HR6.out)
            have HBK7 : Hid (IsBook W7 b g S' Tx' sh') := Lib.hid (by rw [hW7]; exact bk_setRow HBK6.out HSN.out.2.1 _)
            have HT7 : Hid (Turns S w W7) := Lib.hid (by rw [hW7]; exact tS_setRow HT6.out (by have := HPQ.out; omega) _)
            have HPS := Lib.hid (psum_any b g (d + 1) (kd / 2) (ps d) (upS k x ps d) S' Tx' sh' W7 HBK7.out (by omega) (by omega) HYD.out HSD.out)
            rw [Int.natCast_add, Int.natCast_ediv, Int.natCast_one, show ((2 : Nat) : Int) = 2 from rfl] at HPS
            rw [← HYDD.out, ← HSDD.out] at HPS
            obtain ⟨da, hda⟩ : ∃ z, z = digA (txt 1 [putL 1 (d + 1), putL 4 (kd / 2), (ps d), (upS k x ps d)]) := ⟨_, rfl⟩
            have hda2 : da.size = 32 := by rw [hda]; unfold digA; rw [rowV_size]
            have HIA := Lib.hid (info_dig hda2)
            have HOA : Hid (da.all (·.oneCell') = true) := Lib.hid (by rw [hda]; exact one_dig _)
            have HZA : Hid (sd.size = da.size) := Lib.hid (by rw [hda2, ← HZS.out]; simp [zeros])
            have HDA := Lib.hid hda
            have hUP : da = dA (upS k x ps (d + 1)) := by
              rw [hda, upS, ← HKD.out]
              have e1 : k / 2 ^ (d + 1) = kd / 2 := by rw [HKD.out, Nat.pow_succ, Nat.div_div_eq_div_mul]
              rw [e1, if_pos hpar, if_pos hpar]
              rfl
            have HUP := Lib.hid hUP
            have HW7 := Lib.hid hW7
            have HKE : Hid (kd / 2 = k / 2 ^ (d + 1)) := Lib.hid (by rw [HKD.out, Nat.pow_succ, Nat.div_div_eq_div_mul])
            clear hW7 hda hda2 hUP
            have c0 := blk_cell HP7.out 0
            have c1 := blk_cell HP7.out 1
            simp only [List.getElem?_toArray, List.getElem?_cons_zero, List.getElem?_cons_succ] at c0 c1
            go_wp2_with (first
              | (with_reducible refine wpList_store_row rfl 64 (.tmp 12) (.tmp 54) rfl _ _ rfl rfl 64 _ HP6.out (info_pl2 _ _) (sz_pl _ _ _ _) (one_pl _ _) ?_; rw [← HW7.out])
              | (with_reducible refine wpList_load_row rfl 37 (.tmp 16) rfl _ rfl 37 _ _ _ HA7.out Try.underlying37 rfl HIY.out ?_)
              | (with_reducible refine wpList_load_row rfl 37 (.tmp 17) rfl _ rfl 37 _ _ _ HB7.out Try.underlying37 rfl HIS.out ?_))
            refine (HPS.out).mono ?_
            rintro e w8 ⟨he, ht8, hb8⟩
            rw [← HDA.out] at he
            subst he
            have HQ8 := Lib.hid (turnsU ht8 HSN.out.2.2 HQ7.out)
            have HT8 : Hid (Turns S w w8) := Lib.hid (HT7.out.trans (S' := S') ht8 (fun j hj hj' => (HSS.out j hj').elim id (fun c => by omega)))
            have HR8 := turnsU ht8 HSN.out.1 HR7.out
            have HP8 := turnsU ht8 HSN.out.2.1 HP7.out
            have hlp := blk_lt HP7.out
            have hlq := blk_lt HQ7.out
            have hlr := blk_lt HR7.out
            have hsz7 := HT7.out.size
            obtain ⟨W9, hW9⟩ : ∃ W9, W9 = w8.setRow q da := ⟨_, rfl⟩
            have H9 : Hid (UpInv w b g k p q S x ps m (.int .i64 ((d : Int) + 1)) W9) := Lib.hid (by
              rw [hW9]
              refine ⟨d + 1, rfl, hlt, (setRow_other _ _ _ _ (by have := HPQ.out; omega)).trans HR8, ?_, ?_, tS_setRow HT8.out (by have := HPQ.out; omega) _, _, _, _, bk_setRow hb8 (fun z => z.elim HSN.out.2.2 (fun c => by omega)) _, fun j hj => hj.elim (HSS.out j) (fun c => .inr (by omega)), fun z => z.elim HSN.out.1 (fun c => by omega), fun z => z.elim HSN.out.2.1 (fun c => by omega), fun z => z.elim HSN.out.2.2 (fun c => by omega)⟩
              · rw [← HKE.out, Int.natCast_add, Int.natCast_ediv]
                exact (setRow_other _ _ _ _ (by have := HPQ.out; omega)).trans HP8
              · rw [← HUP.out]
                exact setRow_heap _ _ _ _ _ _ HQ8.out)
            have HW9 := Lib.hid hW9
            clear ht8 hb8 HR8 HP8 hlp hlq hlr hsz7 hW9
            go_wp2_with (with_reducible refine wpList_store_row rfl 37 (.tmp 13) (.tmp 59) rfl _ _ rfl rfl 37 _ HQ8.out HIA.out HZA.out HOA.out ?_; rw [← HW9.out])
            go_roundw
            case rel => exact H9.out
            case measure => simp [intOf]; omega
          · have hpb : (kd % 2 == 1) = false := by rw [beq_eq_false_iff_ne]; exact hpar
            rw [hpb] at HRT
            go_wp2_with fail
            refine (HRT.out _).mono ?_
            rintro e w4 ⟨rfl, hb4⟩
            have HA5 := Lib.hid ((hb4.block _ (blk_lt HA2.out)).trans HA2.out)
            have HB5 := Lib.hid ((hb4.block _ (blk_lt HB2.out)).trans HB2.out)
            have HP5 := Lib.hid ((hb4.block _ (blk_lt HP2.out)).trans HP2.out)
            have HQ5 := Lib.hid ((hb4.block _ (blk_lt HQ2.out)).trans HQ2.out)
            have HR5 := Lib.hid ((hb4.block _ (blk_lt HR2.out)).trans HR2.out)
            have HBK5 := Lib.hid (HBK2.out.below hb4)
            have HT5 : Hid (Turns S w w4) := Lib.hid (HT2.out.trans (S' := S) (Turns.of_below hb4) (fun _ _ z => z))
            clear hb4 c0 c1
            have c0 := blk_cell HP5.out 0
            have c1 := blk_cell HP5.out 1
            simp only [List.getElem?_toArray, List.getElem?_cons_zero, List.getElem?_cons_succ] at c0 c1
            go_wp2_with fail
            refine (HAB.out _).mono ?_
            rintro e w6 ⟨rfl, hb6⟩
            have HA6 := Lib.hid ((hb6.block _ (blk_lt HA5.out)).trans HA5.out)
            have HB6 := Lib.hid ((hb6.block _ (blk_lt HB5.out)).trans HB5.out)
            have HP6 := Lib.hid ((hb6.block _ (blk_lt HP5.out)).trans HP5.out)
            have HQ6 := Lib.hid ((hb6.block _ (blk_lt HQ5.out)).trans HQ5.out)
            have HR6 := Lib.hid ((hb6.block _ (blk_lt HR5.out)).trans HR5.out)
            have HBK6 := Lib.hid (HBK5.out.below hb6)
            have HT6 : Hid (Turns S w w6) := Lib.hid (HT5.out.trans (S' := S) (Turns.of_below hb6) (fun _ _ z => z))
            clear hb6 c0 c1
            obtain ⟨W7, hW7⟩ : ∃ W7, W7 = w6.setRow p #[.int .i64 ((d : Int) + 1), .int .i64 ((kd : Int) / 2)] := ⟨_, rfl⟩
            have HA7 : Hid (W7.heap[a16]? = some (.cells sd 37 (0, 0))) := Lib.hid (by rw [hW7]; exact (setRow_other _ _ _ _ (by have := HPQ2.out; omega)).trans HA6.out)
            have HB7 : Hid (W7.heap[a17]? = some (.cells yd 37 (0, 0))) := Lib.hid (by rw [hW7]; exact (setRow_other _ _ _ _ (by have := HPQ2.out; omega)).trans HB6.out)
            have HP7 : Hid (W7.heap[p]? = some (.cells #[.int .i64 ((d : Int) + 1), .int .i64 ((kd : Int) / 2)] 64 (0, 0))) := Lib.hid (by rw [hW7]; exact setRow_heap _ _ _ _ _ _ HP6.out)
            have HQ7 : Hid (W7.heap[q]? = some (.cells sd 37 (0, 0))) := Lib.hid (by rw [hW7]; exact (setRow_other _ _ _ _ (by have := HPQ.out; omega)).trans HQ6.out)
            have HR7 : Hid (W7.heap[w.heap.size + 1]? = some (.cells (zeros 32) 37 (0, 0))) := Lib.hid (by rw [hW7]; exact (setRow_other _ _ _ _ (by have := HPQ.out; omega)).trans HR6.out)
            have HBK7 : Hid (IsBook W7 b g S' Tx' sh') := Lib.hid (by rw [hW7]; exact bk_setRow HBK6.out HSN.out.2.1 _)
            have HT7 : Hid (Turns S w W7) := Lib.hid (by rw [hW7]; exact tS_setRow HT6.out (by have := HPQ.out; omega) _)
            have HPS := Lib.hid (psum_any b g (d + 1) (kd / 2) (upS k x ps d) (ps d) S' Tx' sh' W7 HBK7.out (by omega) (by omega) HSD.out HYD.out)
            rw [Int.natCast_add, Int.natCast_ediv, Int.natCast_one, show ((2 : Nat) : Int) = 2 from rfl] at HPS
            rw [← HSDD.out, ← HYDD.out] at HPS
            obtain ⟨da, hda⟩ : ∃ z, z = digA (txt 1 [putL 1 (d + 1), putL 4 (kd / 2), (upS k x ps d), (ps d)]) := ⟨_, rfl⟩
            have hda2 : da.size = 32 := by rw [hda]; unfold digA; rw [rowV_size]
            have HIA := Lib.hid (info_dig hda2)
            have HOA : Hid (da.all (·.oneCell') = true) := Lib.hid (by rw [hda]; exact one_dig _)
            have HZA : Hid (sd.size = da.size) := Lib.hid (by rw [hda2, ← HZS.out]; simp [zeros])
            have HDA := Lib.hid hda
            have hUP : da = dA (upS k x ps (d + 1)) := by
              rw [hda, upS, ← HKD.out]
              have e1 : k / 2 ^ (d + 1) = kd / 2 := by rw [HKD.out, Nat.pow_succ, Nat.div_div_eq_div_mul]
              rw [e1, if_neg hpar, if_neg hpar]
              rfl
            have HUP := Lib.hid hUP
            have HW7 := Lib.hid hW7
            have HKE : Hid (kd / 2 = k / 2 ^ (d + 1)) := Lib.hid (by rw [HKD.out, Nat.pow_succ, Nat.div_div_eq_div_mul])
            clear hW7 hda hda2 hUP
            have c0 := blk_cell HP7.out 0
            have c1 := blk_cell HP7.out 1
            simp only [List.getElem?_toArray, List.getElem?_cons_zero, List.getElem?_cons_succ] at c0 c1
            go_wp2_with (first
              | (with_reducible refine wpList_store_row rfl 64 (.tmp 12) (.tmp 54) rfl _ _ rfl rfl 64 _ HP6.out (info_pl2 _ _) (sz_pl _ _ _ _) (one_pl _ _) ?_; rw [← HW7.out])
              | (with_reducible refine wpList_load_row rfl 37 (.tmp 16) rfl _ rfl 37 _ _ _ HA7.out Try.underlying37 rfl HIS.out ?_)
              | (with_reducible refine wpList_load_row rfl 37 (.tmp 17) rfl _ rfl 37 _ _ _ HB7.out Try.underlying37 rfl HIY.out ?_))
            refine (HPS.out).mono ?_
            rintro e w8 ⟨he, ht8, hb8⟩
            rw [← HDA.out] at he
            subst he
            have HQ8 := Lib.hid (turnsU ht8 HSN.out.2.2 HQ7.out)
            have HT8 : Hid (Turns S w w8) := Lib.hid (HT7.out.trans (S' := S') ht8 (fun j hj hj' => (HSS.out j hj').elim id (fun c => by omega)))
            have HR8 := turnsU ht8 HSN.out.1 HR7.out
            have HP8 := turnsU ht8 HSN.out.2.1 HP7.out
            have hlp := blk_lt HP7.out
            have hlq := blk_lt HQ7.out
            have hlr := blk_lt HR7.out
            have hsz7 := HT7.out.size
            obtain ⟨W9, hW9⟩ : ∃ W9, W9 = w8.setRow q da := ⟨_, rfl⟩
            have H9 : Hid (UpInv w b g k p q S x ps m (.int .i64 ((d : Int) + 1)) W9) := Lib.hid (by
              rw [hW9]
              refine ⟨d + 1, rfl, hlt, (setRow_other _ _ _ _ (by have := HPQ.out; omega)).trans HR8, ?_, ?_, tS_setRow HT8.out (by have := HPQ.out; omega) _, _, _, _, bk_setRow hb8 (fun z => z.elim HSN.out.2.2 (fun c => by omega)) _, fun j hj => hj.elim (HSS.out j) (fun c => .inr (by omega)), fun z => z.elim HSN.out.1 (fun c => by omega), fun z => z.elim HSN.out.2.1 (fun c => by omega), fun z => z.elim HSN.out.2.2 (fun c => by omega)⟩
              · rw [← HKE.out, Int.natCast_add, Int.natCast_ediv]
                exact (setRow_other _ _ _ _ (by have := HPQ.out; omega)).trans HP8
              · rw [← HUP.out]
                exact setRow_heap _ _ _ _ _ _ HQ8.out)
            have HW9 := Lib.hid hW9
            clear ht8 hb8 HR8 HP8 hlp hlq hlr hsz7 hW9
            go_wp2_with (with_reducible refine wpList_store_row rfl 37 (.tmp 13) (.tmp 59) rfl _ _ rfl rfl 37 _ HQ8.out HIA.out HZA.out HOA.out ?_; rw [← HW9.out])
            go_roundw
            case rel => exact H9.out
            case measure => simp [intOf]; omega
      · obtain rfl : d = m := by omega
        have hsd := upS_dig (k := k) (ps := ps) HX.out d
        have hsz32 : (dA (upS k x ps d)).size = 32 := by rw [rowV_size]
        have HIS := Lib.hid (info_dig hsz32)
        have HRT2 := Lib.hid (troot_any b g n (upS k x ps d) S' Tx' sh' wr hb (by omega) hsd)
        obtain ⟨sd, hsdd⟩ : ∃ z, z = dA (upS k x ps d) := ⟨_, rfl⟩
        rw [← hsdd] at HIS HRT2 hq
        obtain ⟨da, hda⟩ : ∃ z, z = digA (txt 2 [putL 4 n, upS k x ps d]) := ⟨_, rfl⟩
        have hda2 : da.size = 32 := by rw [hda]; unfold digA; rw [rowV_size]
        have HIA := Lib.hid (info_dig hda2)
        have HOA : Hid (da.all (·.oneCell') = true) := Lib.hid (by rw [hda]; exact one_dig _)
        have HZR : Hid ((zeros 32).size = da.size) := Lib.hid (by rw [hda2]; simp [zeros])
        have HDA := Lib.hid hda
        have HQ := Lib.hid hq
        have HR := Lib.hid hr
        have HT := Lib.hid ht
        have HSS := Lib.hid hs'
        have HSR := Lib.hid hsr
        clear hsd hsz32 hsdd hda hda2 hq hr ht hs' hsr hp hb hsp hsq H0
        go_wp2_with (with_reducible refine wpList_load_row rfl 37 (.tmp 13) rfl _ rfl 37 _ _ _ HQ.out Try.underlying37 rfl HIS.out ?_)
        refine (HRT2.out).mono ?_
        rintro e w8 ⟨he, ht8, hb8⟩
        rw [← HDA.out] at he
        subst he
        have HR8 := Lib.hid (turnsU ht8 HSR.out HR.out)
        have HF := Lib.hid (setRow_heap _ _ _ da _ _ HR8.out)
        have HU : Hid (UpYes w b g S (txt 2 [putL 4 n, upS k x ps d]) (.returned (.tuple #[.agg da, .int .i64 0])) (w8.setRow (w.heap.size + 1) da)) := Lib.hid (by
          have := blk_lt HR.out
          have := HT.out.size
          refine ⟨by rw [HDA.out], tS_setRow (HT.out.trans (S' := S') ht8 (fun j hj hj' => (HSS.out j hj').elim id (fun c => by omega))) (by omega) _, _, _, _, bk_setRow hb8 (fun z => z.elim HSR.out (fun c => by omega)) _, fun j hj => hj.elim (HSS.out j) (fun c => .inr (by omega))⟩)
        clear ht8 hb8
        go_wp2_with (with_reducible refine wpList_store_row rfl 37 (.tmp 10) (.tmp 64) rfl _ _ rfl rfl 37 _ HR8.out HIA.out HZR.out HOA.out ?_)
        exact bodyPost_ret (v := .tuple #[.agg da, .int .i64 0]) (rts_row rfl _ _ _ 37 _ (0, 0) _ _ rfl rfl HF.out Try.underlying37 rfl HIA.out) rfl HU.out
  · go_simp
    refine hK.out _ _ (HK.out _ ((hHeld.2).alloc hHeld.2.size _)) (fun hHeld4 => ?_)
    clear hK K
    (try simp only [Act.put, List.getElem_toArray, List.getElem_cons_succ, List.getElem_cons_zero, List.setIfInBounds_toArray, List.set_cons_zero, List.set_cons_succ])
    refine wpAnyF_ready (rs := [3]) (by kernel_rfl) (by simp) ?_
    refine AllReadyF.cons (o := _) rfl (fun K hK => ?_) AllReadyF.nil
    go_simp
    refine hK.out _ _ (HK.out _ ((hHeld4.2).alloc hHeld4.2.size _)) (fun hHeld3 => ?_)
    clear hK K
    (try simp only [Act.put, List.getElem_toArray, List.getElem_cons_succ, List.getElem_cons_zero, List.setIfInBounds_toArray, List.set_cons_zero, List.set_cons_succ])
    have h2 := two_at W0 (.cells (zeros 32) 37) (.cells #[.int .i64 0, .int .i64 0] 64)
    have HV : Hid (((W0.alloc (.cells (zeros 32) 37)).alloc (.cells #[.int .i64 0, .int .i64 0] 64)).drew.heap[(W0.heap.size + 1)]? = some (.cells #[.int .i64 0, .int .i64 0] 64 (0, 0)) ∧ ((W0.alloc (.cells (zeros 32) 37)).alloc (.cells #[.int .i64 0, .int .i64 0] 64)).drew.heap[W0.heap.size]? = some (.cells (zeros 32) 37 (0, 0)) ∧ Below W0.heap.size W0 ((W0.alloc (.cells (zeros 32) 37)).alloc (.cells #[.int .i64 0, .int .i64 0] 64)).drew) := Lib.hid ⟨h2.2.1, h2.1, h2.2.2.1.drew⟩
    clear h2
    refine wpAnyF_ready (rs := [5]) (by kernel_rfl) (by simp) ?_
    refine AllReadyF.cons (o := _) rfl (fun K hK => ?_) AllReadyF.nil
    rw [if_pos (by kernel_rfl)]
    refine wp_store_row 64 (.tmp 12) (.tmp 39) rfl (W0.heap.size + 1) #[.int .i64 0, .int .i64 (k : Int)] rfl rfl _ _ HV.out.1 info_pl rfl (one_pl _ _) ?_
    refine hK.out _ _ (HK.out _ (below_setRow hHeld3.2 (by omega) _)) (fun hHeld5 => ?_)
    clear hK K
    (try simp only [Act.put, List.getElem_toArray, List.getElem_cons_succ, List.getElem_cons_zero, List.setIfInBounds_toArray, List.set_cons_zero, List.set_cons_succ])
    refine wpAnyF_ready (rs := [6]) (by kernel_rfl) (by simp) ?_
    refine AllReadyF.cons (o := _) rfl (fun K hK => ?_) AllReadyF.nil
    rw [if_pos (by kernel_rfl)]
    refine wp_store_row 37 (.tmp 13) (.tmp 40) rfl W0.heap.size xd rfl rfl _ (zeros 32) ((setRow_other _ _ _ _ (by omega)).trans HV.out.2.1) HIX.out HZX.out HOX.out ?_
    refine hK.out _ _ (HK.out _ (below_setRow hHeld5.2 (by omega) _)) (fun hHeld6 => ?_)
    clear hK K
    (try simp only [Act.put, List.getElem_toArray, List.getElem_cons_succ, List.getElem_cons_zero, List.setIfInBounds_toArray, List.set_cons_zero, List.set_cons_succ])
    refine wpAnyF_done (by kernel_rfl) ?_ _
    have h3 := two_set (P := #[.int .i64 0, .int .i64 (k : Int)]) (X := xd) HV.out.2.2 HV.out.1 HV.out.2.1 (by omega) (by omega) (by omega)
    generalize hW3 : ((((W0.alloc (.cells (zeros 32) 37)).alloc (.cells #[.int .i64 0, .int .i64 0] 64)).drew.setRow (W0.heap.size + 1) #[.int .i64 0, .int .i64 (k : Int)]).setRow W0.heap.size xd) = W3 at h3
    have HW3 := Lib.hid hW3
    have HPQ : Hid (w.heap.size + 2 ≤ (W0.heap.size + 1) ∧ w.heap.size + 2 ≤ W0.heap.size ∧ (W0.heap.size + 1) ≠ W0.heap.size) := Lib.hid (by have := HS0.out; omega)
    have hbw3 : Below w.heap.size w W3 := HB0.out.trans (h3.2.2.mono HB0.out.size)
    have H0 : Hid (UpInv w b g k (W0.heap.size + 1) W0.heap.size S x ps m (.int .i64 0) W3) := Lib.hid ⟨0, rfl, by omega, (h3.2.2.block _ (by have := HS0.out; omega)).trans HR0.out, by rw [Nat.pow_zero, Nat.div_one]; exact h3.1, by rw [upS, ← HXD.out]; exact h3.2.1, Turns.of_below hbw3, S, Tx, sh, HBK.out.below hbw3, fun j hj => .inl hj, fun hj => by have := HSUB.out _ hj; omega, fun hj => by have := HSUB.out _ hj; have := HPQ.out; omega, fun hj => by have := HSUB.out _ hj; have := HPQ.out; omega⟩

    clear hW3 hHeld hHeld3 hHeld4 hHeld5 hHeld6 h3 hbw3 HK HV HW3 HS0 HB0 HR0 HP8 HW0 HBK
    generalize hp : (W0.heap.size + 1) = p at *
    generalize hq : W0.heap.size = q at *
    clear hp hq
    go_wp2_with fail
    go_loopw [43] (fun i W => UpInv w b g k p q S x ps m i W) (fun i _ => (m - intOf i).toNat)
    case atStart => exact H0.out
    case round =>
      obtain ⟨d, rfl, hd, hr, hp, hq, ht, S', Tx', sh', hb, hs', hsr, hsp, hsq⟩ := hrel
      by_cases hlt : d < m
      · obtain ⟨bb, oo, rfl, hbb, hrg⟩ := HDS.out.1 (by omega)
        have HRG := Lib.hid (range_of (ht.block bb hbb (HOFF.out _ rfl)) (hrg d hlt))
        have hyd := HDS.out.2 d
        have hsd := upS_dig (k := k) (ps := ps) HX.out d
        have hy32 : (dA (ps d)).size = 32 := by rw [rowV_size]
        have hsz32 : (dA (upS k x ps d)).size = 32 := by rw [rowV_size]
        have HIY := Lib.hid (info_dig hy32)
        have HIYL : Hid ((Try.prog.info? 37).map (·.size) = some (dA (ps d)).toList.length) := Lib.hid (by rw [Array.length_toList]; exact info_dig hy32)
        have HIS := Lib.hid (info_dig hsz32)
        have HOY : Hid ((dA (ps d)).all (·.oneCell') = true) := Lib.hid (dA_one _)
        have HOS : Hid ((dA (upS k x ps d)).all (·.oneCell') = true) := Lib.hid (dA_one _)
        have HZY : Hid ((zeros 32).size = (dA (ps d)).size) := Lib.hid (by rw [hy32]; simp [zeros])
        have HZS : Hid ((zeros 32).size = (dA (upS k x ps d)).size) := Lib.hid (by rw [hsz32]; simp [zeros])
        have HYD := Lib.hid hyd
        have HSD := Lib.hid hsd
        obtain ⟨W1, hW1⟩ : ∃ W1, W1 = (wr.alloc (.cells (zeros 32) 37)).setRow wr.heap.size (dA (ps d)) := ⟨_, rfl⟩
        have hbw : Below wr.heap.size wr W1 := by rw [hW1]; exact below_setRow ((Below.refl _ _).alloc (Nat.le_refl _) _) (Nat.le_refl _) _
        have h15 := heap_alloc_new wr (.cells (zeros 32) 37)
        have HP15 : Hid (W1.heap[wr.heap.size]? = some (.cells (dA (ps d)) 37 (0, 0))) := Lib.hid (by rw [hW1]; exact setRow_heap _ _ _ _ _ _ h15)
        have HRR1 := Lib.hid ((hbw.block _ (blk_lt hr)).trans hr)
        have HPP1 := Lib.hid ((hbw.block _ (blk_lt hp)).trans hp)
        have HQQ1 := Lib.hid ((hbw.block _ (blk_lt hq)).trans hq)
        have HBK1 := Lib.hid (hb.below hbw)
        have HT1 : Hid (Turns S w W1) := Lib.hid (ht.trans (S' := S) (Turns.of_below hbw) (fun _ _ z => z))
        have H15 := Lib.hid h15
        have HW1 := Lib.hid hW1
        have HSS := Lib.hid hs'
        have HSN : Hid (¬ S' (w.heap.size + 1) ∧ ¬ S' p ∧ ¬ S' q) := Lib.hid ⟨hsr, hsp, hsq⟩
        obtain ⟨yd, hydd⟩ : ∃ z, z = dA (ps d) := ⟨_, rfl⟩
        obtain ⟨sd, hsdd⟩ : ∃ z, z = dA (upS k x ps d) := ⟨_, rfl⟩
        have hxa : yd.toList.toArray = yd := by simp
        rw [← hydd] at HRG HIY HIYL HOY HZY HP15 HW1
        rw [← hsdd] at HIS HOS HZS HQQ1
        have HYDD := Lib.hid hydd
        have HSDD := Lib.hid hsdd
        have hm10' : d ≤ 10 := by omega
        clear hr hp hq ht hb hs' hsr hsp hsq hrg hyd hsd hy32 hsz32 hW1 hbw h15 hydd hsdd H0
        go_upto_region 7 with (first
          | (with_reducible refine wpList_load_mid rfl 37 (.tmp 45) rfl bb (oo + d * 32) rfl yd.toList _ HRG.out Try.underlying37 rfl HIYL.out ?_)
          | (with_reducible refine wpList_store_row rfl 37 (.tmp 15) (.tmp 46) rfl _ _ rfl (by simp [Act.eval, Act.put]) 37 _ H15.out HIY.out HZY.out HOY.out ?_))
        rw [← HW1.out]
        generalize hp15 : wr.heap.size = p15 at *
        have HK7 : Hid (∀ W, Below W1.heap.size W1 W → W.heap[q]? = some (.cells sd 37 (0, 0)) ∧ W.heap[p15]? = some (.cells yd 37 (0, 0)) ∧ Below W1.heap.size W1 W) := Lib.hid (fun W hW => ⟨(hW.block _ (blk_lt HQQ1.out)).trans HQQ1.out, (hW.block _ (blk_lt HP15.out)).trans HP15.out, hW⟩)
        refine wp_region_F (S := (fun W : World => W.heap[q]? = some (.cells sd 37 (0, 0)) ∧ W.heap[p15]? = some (.cells yd 37 (0, 0)) ∧ Below W1.heap.size W1 W)) [] (by kernel_rfl) (HK7.out _ ((Below.refl _ _).drew)) (fun hHeld => ?_)
        refine wpAnyF_take (i := 0) (oi := _) (v := _) rfl (by kernel_rfl) (by kernel_rfl) (by kernel_rfl) (by kernel_rfl) (fun _ _ _ h => h) (yields_rowU (by rfl) 37 (.tmp 13) rfl q 0 rfl sd _ (fun W h => range_cells h.1) Try.underlying37 rfl HIS.out) (by assumption) ?_
        (try simp only [Act.put, List.getElem_toArray, List.getElem_cons_succ, List.getElem_cons_zero, List.setIfInBounds_toArray, List.set_cons_zero, List.set_cons_succ])
        refine wpAnyF_take (i := 1) (oi := _) (v := _) rfl (by kernel_rfl) (by kernel_rfl) (by kernel_rfl) (by kernel_rfl) (fun _ _ _ h => h) (yields_rowU (by rfl) 37 (.tmp 15) rfl p15 0 rfl yd _ (fun W h => range_cells h.2.1) Try.underlying37 rfl HIY.out) (by assumption) ?_
        (try simp only [Act.put, List.getElem_toArray, List.getElem_cons_succ, List.getElem_cons_zero, List.setIfInBounds_toArray, List.set_cons_zero, List.set_cons_succ])
        refine wpAnyF_ready (rs := [2, 3]) (by kernel_rfl) (by simp) ?_
        refine AllReadyF.cons (o := _) rfl (fun K hK => ?_) (AllReadyF.cons (o := _) rfl (fun K hK => ?_) AllReadyF.nil)
        · go_simp
          refine hK.out _ _ (HK7.out _ ((hHeld.2.2).alloc hHeld.2.2.size _)) (fun hHeld2 => ?_)
          clear hK K
          (try simp only [Act.put, List.getElem_toArray, List.getElem_cons_succ, List.getElem_cons_zero, List.setIfInBounds_toArray, List.set_cons_zero, List.set_cons_succ])
          refine wpAnyF_ready (rs := [3]) (by kernel_rfl) (by simp) ?_
          refine AllReadyF.cons (o := _) rfl (fun K hK => ?_) AllReadyF.nil
          go_simp
          refine hK.out _ _ (HK7.out _ ((hHeld2.2.2).alloc hHeld2.2.2.size _)) (fun hHeld3 => ?_)
          clear hK K
          (try simp only [Act.put, List.getElem_toArray, List.getElem_cons_succ, List.getElem_cons_zero, List.setIfInBounds_toArray, List.set_cons_zero, List.set_cons_succ])
          have h2 := two_at W1 (.cells (zeros 32) 37) (.cells (zeros 32) 37)
          have HV : Hid (((W1.alloc (.cells (zeros 32) 37)).alloc (.cells (zeros 32) 37)).drew.heap[W1.heap.size]? = some (.cells (zeros 32) 37 (0, 0)) ∧ ((W1.alloc (.cells (zeros 32) 37)).alloc (.cells (zeros 32) 37)).drew.heap[(W1.heap.size + 1)]? = some (.cells (zeros 32) 37 (0, 0)) ∧ Below W1.heap.size W1 ((W1.alloc (.cells (zeros 32) 37)).alloc (.cells (zeros 32) 37)).drew) := Lib.hid ⟨h2.1, h2.2.1, h2.2.2.1.drew⟩
          clear h2
          refine wpAnyF_ready (rs := [4]) (by kernel_rfl) (by simp) ?_
          refine AllReadyF.cons (o := _) rfl (fun K hK => ?_) AllReadyF.nil
          rw [if_pos (by kernel_rfl)]
          refine wp_store_row 37 (.tmp 16) (.tmp 47) rfl W1.heap.size sd rfl rfl _ (zeros 32) HV.out.1 HIS.out HZS.out HOS.out ?_
          refine hK.out _ _ (HK7.out _ (below_setRow hHeld3.2.2 (by omega) _)) (fun hHeld4 => ?_)
          clear hK K
          (try simp only [Act.put, List.getElem_toArray, List.getElem_cons_succ, List.getElem_cons_zero, List.setIfInBounds_toArray, List.set_cons_zero, List.set_cons_succ])
          refine wpAnyF_ready (rs := [5]) (by kernel_rfl) (by simp) ?_
          refine AllReadyF.cons (o := _) rfl (fun K hK => ?_) AllReadyF.nil
          rw [if_pos (by kernel_rfl)]
          refine wp_store_row 37 (.tmp 17) (.tmp 48) rfl (W1.heap.size + 1) yd rfl rfl _ (zeros 32) ((setRow_other _ _ _ _ (by omega)).trans HV.out.2.1) HIY.out HZY.out HOY.out ?_
          refine hK.out _ _ (HK7.out _ (below_setRow hHeld4.2.2 (by omega) _)) (fun hHeld5 => ?_)
          clear hK K
          (try simp only [Act.put, List.getElem_toArray, List.getElem_cons_succ, List.getElem_cons_zero, List.setIfInBounds_toArray, List.set_cons_zero, List.set_cons_succ])
          refine wpAnyF_done (by kernel_rfl) ?_ _
          have h3 := two_set (P := sd) (X := yd) HV.out.2.2 HV.out.1 HV.out.2.1 (by omega) (by omega) (by omega)
          generalize hW2 : ((((W1.alloc (.cells (zeros 32) 37)).alloc (.cells (zeros 32) 37)).drew.setRow W1.heap.size sd).setRow (W1.heap.size + 1) yd) = W2 at h3
          have HR2 := Lib.hid ((h3.2.2.block _ (blk_lt HRR1.out)).trans HRR1.out)
          have HP2 := Lib.hid ((h3.2.2.block _ (blk_lt HPP1.out)).trans HPP1.out)
          have HQ2 := Lib.hid ((h3.2.2.block _ (blk_lt HQQ1.out)).trans HQQ1.out)
          have HBK2 := Lib.hid (HBK1.out.below h3.2.2)
          have HT2 : Hid (Turns S w W2) := Lib.hid (HT1.out.trans (S' := S) (Turns.of_below h3.2.2) (fun _ _ z => z))
          have HA2 := Lib.hid h3.1
          have HB2 := Lib.hid h3.2.1
          have HPQ2 : Hid (p < W1.heap.size ∧ q < W1.heap.size ∧ p < (W1.heap.size + 1) ∧ q < (W1.heap.size + 1) ∧ w.heap.size + 1 < W1.heap.size ∧ w.heap.size + 1 < (W1.heap.size + 1) ∧ W1.heap.size ≠ (W1.heap.size + 1)) := Lib.hid (by have := blk_lt HPP1.out; have := blk_lt HQQ1.out; have := blk_lt HRR1.out; omega)
          have HNP : Hid (¬ S' W1.heap.size ∧ ¬ S' (W1.heap.size + 1)) := Lib.hid ⟨fun z => by have := HBK1.out.sub z; omega, fun z => by have := HBK1.out.sub z; omega⟩
          have HLW : Hid (w.heap.size ≤ W1.heap.size ∧ w.heap.size ≤ (W1.heap.size + 1)) := Lib.hid (by have := HT1.out.size; omega)
          clear hW2 hHeld hHeld2 hHeld3 hHeld4 hHeld5 h3 HK7 HV HP15 HRR1 HPP1 HQQ1 HBK1 HT1
          generalize hq7 : (W1.heap.size + 1) = a17 at *
          generalize hp7 : W1.heap.size = a16 at *
          clear hp7 hq7
          obtain ⟨kd, hkd⟩ : ∃ kd, kd = k / 2 ^ d := ⟨_, rfl⟩
          have hkdb : kd ≤ 1024 := by rw [hkd]; exact Nat.le_trans (Nat.div_le_self _ _) (by omega)
          have HKD := Lib.hid hkd
          rw [← hkd] at HP2
          have c0 := blk_cell HP2.out 0
          have c1 := blk_cell HP2.out 1
          simp only [List.getElem?_toArray, List.getElem?_cons_zero, List.getElem?_cons_succ] at c0 c1
          have HRT := Lib.hid (fun W => right_any d kd (by omega) W)
          have HAB := Lib.hid (fun W => above_any d kd (by omega) (by omega) W)
          clear hkd hxa
          by_cases hpar : kd % 2 = 1
          · have hpb : (kd % 2 == 1) = true := by rw [beq_iff_eq]; exact hpar
            rw [hpb] at HRT
            go_wp2_with fail
            refine (HRT.out _).mono ?_
            rintro e w4 ⟨rfl, hb4⟩
            have HA4 := Lib.hid ((hb4.block _ (blk_lt HA2.out)).trans HA2.out)
            have HB4 := Lib.hid ((hb4.block _ (blk_lt HB2.out)).trans HB2.out)
            have HBK4 := Lib.hid (HBK2.out.below hb4)
            have HT4 : Hid (Turns S w w4) := Lib.hid (HT2.out.trans (S' := S) (Turns.of_below hb4) (fun _ _ z => z))
            obtain ⟨W5, hW5⟩ : ∃ W5, W5 = (w4.setRow a16 yd).setRow a17 sd := ⟨_, rfl⟩
            have h5 : ∀ j, j ≠ a16 → j ≠ a17 → W5.heap[j]? = w4.heap[j]? := fun j h1 h2 => by rw [hW5]; exact (setRow_other _ _ _ _ h2).trans (setRow_other _ _ _ _ h1)
            have HA5 : Hid (W5.heap[a16]? = some (.cells yd 37 (0, 0))) := Lib.hid (by rw [hW5]; exact (setRow_other _ _ _ _ (by have := HPQ2.out; omega)).trans (setRow_heap _ _ _ _ _ _ HA4.out))
            have HB5 : Hid (W5.heap[a17]? = some (.cells sd 37 (0, 0))) := Lib.hid (by rw [hW5]; exact setRow_heap _ _ _ _ _ _ ((setRow_other _ _ _ _ (by have := HPQ2.out; omega)).trans HB4.out))
            have HP5 := Lib.hid ((h5 p (by have := HPQ2.out; omega) (by have := HPQ2.out; omega)).trans ((hb4.block _ (blk_lt HP2.out)).trans HP2.out))
            have HQ5 := Lib.hid ((h5 q (by have := HPQ2.out; omega) (by have := HPQ2.out; omega)).trans ((hb4.block _ (blk_lt HQ2.out)).trans HQ2.out))
            have HR5 := Lib.hid ((h5 (w.heap.size + 1) (by have := HPQ2.out; omega) (by have := HPQ2.out; omega)).trans ((hb4.block _ (blk_lt HR2.out)).trans HR2.out))
            have HBK5 : Hid (IsBook W5 b g S' Tx' sh') := Lib.hid (by rw [hW5]; exact bk_setRow (bk_setRow HBK4.out HNP.out.1 _) HNP.out.2 _)
            have HT5 : Hid (Turns S w W5) := Lib.hid (by rw [hW5]; exact tS_setRow (tS_setRow HT4.out HLW.out.1 _) HLW.out.2 _)
            have HSY : Hid (sd.size = yd.size) := Lib.hid (HZS.out.symm.trans HZY.out)
            have HYS : Hid (yd.size = sd.size) := Lib.hid HSY.out.symm
            have HBX : Hid ((w4.setRow a16 yd).heap[a17]? = some (.cells yd 37 (0, 0))) := Lib.hid ((setRow_other _ _ _ _ (by have := HPQ2.out; omega)).trans HB4.out)
            have HW5 := Lib.hid hW5
            clear hW5 h5 hb4 c0 c1
            have c0 := blk_cell HP5.out 0
            have c1 := blk_cell HP5.out 1
            simp only [List.getElem?_toArray, List.getElem?_cons_zero, List.getElem?_cons_succ] at c0 c1
            go_wp2_with (first
              | (with_reducible refine wpList_load_row rfl 37 (.tmp 17) rfl _ rfl 37 _ _ _ HB4.out Try.underlying37 rfl HIY.out ?_)
              | (with_reducible refine wpList_load_row rfl 37 (.tmp 16) rfl _ rfl 37 _ _ _ HA4.out Try.underlying37 rfl HIS.out ?_)
              | (with_reducible refine wpList_store_row rfl 37 (.tmp 16) (.tmp 51) rfl _ _ rfl rfl 37 _ HA4.out HIY.out HSY.out HOY.out ?_)
              | (with_reducible refine wpList_store_row rfl 37 (.tmp 17) (.tmp 52) rfl _ _ rfl rfl 37 _ HBX.out HIS.out HYS.out HOS.out ?_; rw [← HW5.out]))
            refine (HAB.out _).mono ?_
            rintro e w6 ⟨rfl, hb6⟩
            have HA6 := Lib.hid ((hb6.block _ (blk_lt HA5.out)).trans HA5.out)
            have HB6 := Lib.hid ((hb6.block _ (blk_lt HB5.out)).trans HB5.out)
            have HP6 := Lib.hid ((hb6.block _ (blk_lt HP5.out)).trans HP5.out)
            have HQ6 := Lib.hid ((hb6.block _ (blk_lt HQ5.out)).trans HQ5.out)
            have HR6 := Lib.hid ((hb6.block _ (blk_lt HR5.out)).trans HR5.out)
            have HBK6 := Lib.hid (HBK5.out.below hb6)
            have HT6 : Hid (Turns S w w6) := Lib.hid (HT5.out.trans (S' := S) (Turns.of_below hb6) (fun _ _ z => z))
            clear hb6 c0 c1
            obtain ⟨W7, hW7⟩ : ∃ W7, W7 = w6.setRow p #[.int .i64 ((d : Int) + 1), .int .i64 ((kd : Int) / 2)] := ⟨_, rfl⟩
            have HA7 : Hid (W7.heap[a16]? = some (.cells yd 37 (0, 0))) := Lib.hid (by rw [hW7]; exact (setRow_other _ _ _ _ (by have := HPQ2.out; omega)).trans HA6.out)
            have HB7 : Hid (W7.heap[a17]? = some (.cells sd 37 (0, 0))) := Lib.hid (by rw [hW7]; exact (setRow_other _ _ _ _ (by have := HPQ2.out; omega)).trans HB6.out)
            have HP7 : Hid (W7.heap[p]? = some (.cells #[.int .i64 ((d : Int) + 1), .int .i64 ((kd : Int) / 2)] 64 (0, 0))) := Lib.hid (by rw [hW7]; exact setRow_heap _ _ _ _ _ _ HP6.out)
            have HQ7 : Hid (W7.heap[q]? = some (.cells sd 37 (0, 0))) := Lib.hid (by rw [hW7]; exact (setRow_other _ _ _ _ (by have := HPQ.out; omega)).trans HQ6.out)
            have HR7 : Hid (W7.heap[w.heap.size + 1]? = some (.cells (zeros 32) 37 (0, 0))) := Lib.hid (by rw [hW7]; exact (setRow_other _ _ _ _ (by have := HPQ.out; omega)).trans HR6.out)
            have HBK7 : Hid (IsBook W7 b g S' Tx' sh') := Lib.hid (by rw [hW7]; exact bk_setRow HBK6.out HSN.out.2.1 _)
            have HT7 : Hid (Turns S w W7) := Lib.hid (by rw [hW7]; exact tS_setRow HT6.out (by have := HPQ.out; omega) _)
            have HPS := Lib.hid (psum_any b g (d + 1) (kd / 2) (ps d) (upS k x ps d) S' Tx' sh' W7 HBK7.out (by omega) (by omega) HYD.out HSD.out)
            rw [Int.natCast_add, Int.natCast_ediv, Int.natCast_one, show ((2 : Nat) : Int) = 2 from rfl] at HPS
            rw [← HYDD.out, ← HSDD.out] at HPS
            obtain ⟨da, hda⟩ : ∃ z, z = digA (txt 1 [putL 1 (d + 1), putL 4 (kd / 2), (ps d), (upS k x ps d)]) := ⟨_, rfl⟩
            have hda2 : da.size = 32 := by rw [hda]; unfold digA; rw [rowV_size]
            have HIA := Lib.hid (info_dig hda2)
            have HOA : Hid (da.all (·.oneCell') = true) := Lib.hid (by rw [hda]; exact one_dig _)
            have HZA : Hid (sd.size = da.size) := Lib.hid (by rw [hda2, ← HZS.out]; simp [zeros])
            have HDA := Lib.hid hda
            have hUP : da = dA (upS k x ps (d + 1)) := by
              rw [hda, upS, ← HKD.out]
              have e1 : k / 2 ^ (d + 1) = kd / 2 := by rw [HKD.out, Nat.pow_succ, Nat.div_div_eq_div_mul]
              rw [e1, if_pos hpar, if_pos hpar]
              rfl
            have HUP := Lib.hid hUP
            have HW7 := Lib.hid hW7
            have HKE : Hid (kd / 2 = k / 2 ^ (d + 1)) := Lib.hid (by rw [HKD.out, Nat.pow_succ, Nat.div_div_eq_div_mul])
            clear hW7 hda hda2 hUP
            have c0 := blk_cell HP7.out 0
            have c1 := blk_cell HP7.out 1
            simp only [List.getElem?_toArray, List.getElem?_cons_zero, List.getElem?_cons_succ] at c0 c1
            go_wp2_with (first
              | (with_reducible refine wpList_store_row rfl 64 (.tmp 12) (.tmp 54) rfl _ _ rfl rfl 64 _ HP6.out (info_pl2 _ _) (sz_pl _ _ _ _) (one_pl _ _) ?_; rw [← HW7.out])
              | (with_reducible refine wpList_load_row rfl 37 (.tmp 16) rfl _ rfl 37 _ _ _ HA7.out Try.underlying37 rfl HIY.out ?_)
              | (with_reducible refine wpList_load_row rfl 37 (.tmp 17) rfl _ rfl 37 _ _ _ HB7.out Try.underlying37 rfl HIS.out ?_))
            refine (HPS.out).mono ?_
            rintro e w8 ⟨he, ht8, hb8⟩
            rw [← HDA.out] at he
            subst he
            have HQ8 := Lib.hid (turnsU ht8 HSN.out.2.2 HQ7.out)
            have HT8 : Hid (Turns S w w8) := Lib.hid (HT7.out.trans (S' := S') ht8 (fun j hj hj' => (HSS.out j hj').elim id (fun c => by omega)))
            have HR8 := turnsU ht8 HSN.out.1 HR7.out
            have HP8 := turnsU ht8 HSN.out.2.1 HP7.out
            have hlp := blk_lt HP7.out
            have hlq := blk_lt HQ7.out
            have hlr := blk_lt HR7.out
            have hsz7 := HT7.out.size
            obtain ⟨W9, hW9⟩ : ∃ W9, W9 = w8.setRow q da := ⟨_, rfl⟩
            have H9 : Hid (UpInv w b g k p q S x ps m (.int .i64 ((d : Int) + 1)) W9) := Lib.hid (by
              rw [hW9]
              refine ⟨d + 1, rfl, hlt, (setRow_other _ _ _ _ (by have := HPQ.out; omega)).trans HR8, ?_, ?_, tS_setRow HT8.out (by have := HPQ.out; omega) _, _, _, _, bk_setRow hb8 (fun z => z.elim HSN.out.2.2 (fun c => by omega)) _, fun j hj => hj.elim (HSS.out j) (fun c => .inr (by omega)), fun z => z.elim HSN.out.1 (fun c => by omega), fun z => z.elim HSN.out.2.1 (fun c => by omega), fun z => z.elim HSN.out.2.2 (fun c => by omega)⟩
              · rw [← HKE.out, Int.natCast_add, Int.natCast_ediv]
                exact (setRow_other _ _ _ _ (by have := HPQ.out; omega)).trans HP8
              · rw [← HUP.out]
                exact setRow_heap _ _ _ _ _ _ HQ8.out)
            have HW9 := Lib.hid hW9
            clear ht8 hb8 HR8 HP8 hlp hlq hlr hsz7 hW9
            go_wp2_with (with_reducible refine wpList_store_row rfl 37 (.tmp 13) (.tmp 59) rfl _ _ rfl rfl 37 _ HQ8.out HIA.out HZA.out HOA.out ?_; rw [← HW9.out])
            go_roundw
            case rel => exact H9.out
            case measure => simp [intOf]; omega
          · have hpb : (kd % 2 == 1) = false := by rw [beq_eq_false_iff_ne]; exact hpar
            rw [hpb] at HRT
            go_wp2_with fail
            refine (HRT.out _).mono ?_
            rintro e w4 ⟨rfl, hb4⟩
            have HA5 := Lib.hid ((hb4.block _ (blk_lt HA2.out)).trans HA2.out)
            have HB5 := Lib.hid ((hb4.block _ (blk_lt HB2.out)).trans HB2.out)
            have HP5 := Lib.hid ((hb4.block _ (blk_lt HP2.out)).trans HP2.out)
            have HQ5 := Lib.hid ((hb4.block _ (blk_lt HQ2.out)).trans HQ2.out)
            have HR5 := Lib.hid ((hb4.block _ (blk_lt HR2.out)).trans HR2.out)
            have HBK5 := Lib.hid (HBK2.out.below hb4)
            have HT5 : Hid (Turns S w w4) := Lib.hid (HT2.out.trans (S' := S) (Turns.of_below hb4) (fun _ _ z => z))
            clear hb4 c0 c1
            have c0 := blk_cell HP5.out 0
            have c1 := blk_cell HP5.out 1
            simp only [List.getElem?_toArray, List.getElem?_cons_zero, List.getElem?_cons_succ] at c0 c1
            go_wp2_with fail
            refine (HAB.out _).mono ?_
            rintro e w6 ⟨rfl, hb6⟩
            have HA6 := Lib.hid ((hb6.block _ (blk_lt HA5.out)).trans HA5.out)
            have HB6 := Lib.hid ((hb6.block _ (blk_lt HB5.out)).trans HB5.out)
            have HP6 := Lib.hid ((hb6.block _ (blk_lt HP5.out)).trans HP5.out)
            have HQ6 := Lib.hid ((hb6.block _ (blk_lt HQ5.out)).trans HQ5.out)
            have HR6 := Lib.hid ((hb6.block _ (blk_lt HR5.out)).trans HR5.out)
            have HBK6 := Lib.hid (HBK5.out.below hb6)
            have HT6 : Hid (Turns S w w6) := Lib.hid (HT5.out.trans (S' := S) (Turns.of_below hb6) (fun _ _ z => z))
            clear hb6 c0 c1
            obtain ⟨W7, hW7⟩ : ∃ W7, W7 = w6.setRow p #[.int .i64 ((d : Int) + 1), .int .i64 ((kd : Int) / 2)] := ⟨_, rfl⟩
            have HA7 : Hid (W7.heap[a16]? = some (.cells sd 37 (0, 0))) := Lib.hid (by rw [hW7]; exact (setRow_other _ _ _ _ (by have := HPQ2.out; omega)).trans HA6.out)
            have HB7 : Hid (W7.heap[a17]? = some (.cells yd 37 (0, 0))) := Lib.hid (by rw [hW7]; exact (setRow_other _ _ _ _ (by have := HPQ2.out; omega)).trans HB6.out)
            have HP7 : Hid (W7.heap[p]? = some (.cells #[.int .i64 ((d : Int) + 1), .int .i64 ((kd : Int) / 2)] 64 (0, 0))) := Lib.hid (by rw [hW7]; exact setRow_heap _ _ _ _ _ _ HP6.out)
            have HQ7 : Hid (W7.heap[q]? = some (.cells sd 37 (0, 0))) := Lib.hid (by rw [hW7]; exact (setRow_other _ _ _ _ (by have := HPQ.out; omega)).trans HQ6.out)
            have HR7 : Hid (W7.heap[w.heap.size + 1]? = some (.cells (zeros 32) 37 (0, 0))) := Lib.hid (by rw [hW7]; exact (setRow_other _ _ _ _ (by have := HPQ.out; omega)).trans HR6.out)
            have HBK7 : Hid (IsBook W7 b g S' Tx' sh') := Lib.hid (by rw [hW7]; exact bk_setRow HBK6.out HSN.out.2.1 _)
            have HT7 : Hid (Turns S w W7) := Lib.hid (by rw [hW7]; exact tS_setRow HT6.out (by have := HPQ.out; omega) _)
            have HPS := Lib.hid (psum_any b g (d + 1) (kd / 2) (upS k x ps d) (ps d) S' Tx' sh' W7 HBK7.out (by omega) (by omega) HSD.out HYD.out)
            rw [Int.natCast_add, Int.natCast_ediv, Int.natCast_one, show ((2 : Nat) : Int) = 2 from rfl] at HPS
            rw [← HSDD.out, ← HYDD.out] at HPS
            obtain ⟨da, hda⟩ : ∃ z, z = digA (txt 1 [putL 1 (d + 1), putL 4 (kd / 2), (upS k x ps d), (ps d)]) := ⟨_, rfl⟩
            have hda2 : da.size = 32 := by rw [hda]; unfold digA; rw [rowV_size]
            have HIA := Lib.hid (info_dig hda2)
            have HOA : Hid (da.all (·.oneCell') = true) := Lib.hid (by rw [hda]; exact one_dig _)
            have HZA : Hid (sd.size = da.size) := Lib.hid (by rw [hda2, ← HZS.out]; simp [zeros])
            have HDA := Lib.hid hda
            have hUP : da = dA (upS k x ps (d + 1)) := by
              rw [hda, upS, ← HKD.out]
              have e1 : k / 2 ^ (d + 1) = kd / 2 := by rw [HKD.out, Nat.pow_succ, Nat.div_div_eq_div_mul]
              rw [e1, if_neg hpar, if_neg hpar]
              rfl
            have HUP := Lib.hid hUP
            have HW7 := Lib.hid hW7
            have HKE : Hid (kd / 2 = k / 2 ^ (d + 1)) := Lib.hid (by rw [HKD.out, Nat.pow_succ, Nat.div_div_eq_div_mul])
            clear hW7 hda hda2 hUP
            have c0 := blk_cell HP7.out 0
            have c1 := blk_cell HP7.out 1
            simp only [List.getElem?_toArray, List.getElem?_cons_zero, List.getElem?_cons_succ] at c0 c1
            go_wp2_with (first
              | (with_reducible refine wpList_store_row rfl 64 (.tmp 12) (.tmp 54) rfl _ _ rfl rfl 64 _ HP6.out (info_pl2 _ _) (sz_pl _ _ _ _) (one_pl _ _) ?_; rw [← HW7.out])
              | (with_reducible refine wpList_load_row rfl 37 (.tmp 16) rfl _ rfl 37 _ _ _ HA7.out Try.underlying37 rfl HIS.out ?_)
              | (with_reducible refine wpList_load_row rfl 37 (.tmp 17) rfl _ rfl 37 _ _ _ HB7.out Try.underlying37 rfl HIY.out ?_))
            refine (HPS.out).mono ?_
            rintro e w8 ⟨he, ht8, hb8⟩
            rw [← HDA.out] at he
            subst he
            have HQ8 := Lib.hid (turnsU ht8 HSN.out.2.2 HQ7.out)
            have HT8 : Hid (Turns S w w8) := Lib.hid (HT7.out.trans (S' := S') ht8 (fun j hj hj' => (HSS.out j hj').elim id (fun c => by omega)))
            have HR8 := turnsU ht8 HSN.out.1 HR7.out
            have HP8 := turnsU ht8 HSN.out.2.1 HP7.out
            have hlp := blk_lt HP7.out
            have hlq := blk_lt HQ7.out
            have hlr := blk_lt HR7.out
            have hsz7 := HT7.out.size
            obtain ⟨W9, hW9⟩ : ∃ W9, W9 = w8.setRow q da := ⟨_, rfl⟩
            have H9 : Hid (UpInv w b g k p q S x ps m (.int .i64 ((d : Int) + 1)) W9) := Lib.hid (by
              rw [hW9]
              refine ⟨d + 1, rfl, hlt, (setRow_other _ _ _ _ (by have := HPQ.out; omega)).trans HR8, ?_, ?_, tS_setRow HT8.out (by have := HPQ.out; omega) _, _, _, _, bk_setRow hb8 (fun z => z.elim HSN.out.2.2 (fun c => by omega)) _, fun j hj => hj.elim (HSS.out j) (fun c => .inr (by omega)), fun z => z.elim HSN.out.1 (fun c => by omega), fun z => z.elim HSN.out.2.1 (fun c => by omega), fun z => z.elim HSN.out.2.2 (fun c => by omega)⟩
              · rw [← HKE.out, Int.natCast_add, Int.natCast_ediv]
                exact (setRow_other _ _ _ _ (by have := HPQ.out; omega)).trans HP8
              · rw [← HUP.out]
                exact setRow_heap _ _ _ _ _ _ HQ8.out)
            have HW9 := Lib.hid hW9
            clear ht8 hb8 HR8 HP8 hlp hlq hlr hsz7 hW9
            go_wp2_with (with_reducible refine wpList_store_row rfl 37 (.tmp 13) (.tmp 59) rfl _ _ rfl rfl 37 _ HQ8.out HIA.out HZA.out HOA.out ?_; rw [← HW9.out])
            go_roundw
            case rel => exact H9.out
            case measure => simp [intOf]; omega
        · go_simp
          refine hK.out _ _ (HK7.out _ ((hHeld.2.2).alloc hHeld.2.2.size _)) (fun hHeld3 => ?_)
          clear hK K
          (try simp only [Act.put, List.getElem_toArray, List.getElem_cons_succ, List.getElem_cons_zero, List.setIfInBounds_toArray, List.set_cons_zero, List.set_cons_succ])
          refine wpAnyF_ready (rs := [2]) (by kernel_rfl) (by simp) ?_
          refine AllReadyF.cons (o := _) rfl (fun K hK => ?_) AllReadyF.nil
          go_simp
          refine hK.out _ _ (HK7.out _ ((hHeld3.2.2).alloc hHeld3.2.2.size _)) (fun hHeld2 => ?_)
          clear hK K
          (try simp only [Act.put, List.getElem_toArray, List.getElem_cons_succ, List.getElem_cons_zero, List.setIfInBounds_toArray, List.set_cons_zero, List.set_cons_succ])
          have h2 := two_at W1 (.cells (zeros 32) 37) (.cells (zeros 32) 37)
          have HV : Hid (((W1.alloc (.cells (zeros 32) 37)).alloc (.cells (zeros 32) 37)).drew.heap[(W1.heap.size + 1)]? = some (.cells (zeros 32) 37 (0, 0)) ∧ ((W1.alloc (.cells (zeros 32) 37)).alloc (.cells (zeros 32) 37)).drew.heap[W1.heap.size]? = some (.cells (zeros 32) 37 (0, 0)) ∧ Below W1.heap.size W1 ((W1.alloc (.cells (zeros 32) 37)).alloc (.cells (zeros 32) 37)).drew) := Lib.hid ⟨h2.2.1, h2.1, h2.2.2.1.drew⟩
          clear h2
          refine wpAnyF_ready (rs := [4]) (by kernel_rfl) (by simp) ?_
          refine AllReadyF.cons (o := _) rfl (fun K hK => ?_) AllReadyF.nil
          rw [if_pos (by kernel_rfl)]
          refine wp_store_row 37 (.tmp 16) (.tmp 47) rfl (W1.heap.size + 1) sd rfl rfl _ (zeros 32) HV.out.1 HIS.out HZS.out HOS.out ?_
          refine hK.out _ _ (HK7.out _ (below_setRow hHeld2.2.2 (by omega) _)) (fun hHeld4 => ?_)
          clear hK K
          (try simp only [Act.put, List.getElem_toArray, List.getElem_cons_succ, List.getElem_cons_zero, List.setIfInBounds_toArray, List.set_cons_zero, List.set_cons_succ])
          refine wpAnyF_ready (rs := [5]) (by kernel_rfl) (by simp) ?_
          refine AllReadyF.cons (o := _) rfl (fun K hK => ?_) AllReadyF.nil
          rw [if_pos (by kernel_rfl)]
          refine wp_store_row 37 (.tmp 17) (.tmp 48) rfl W1.heap.size yd rfl rfl _ (zeros 32) ((setRow_other _ _ _ _ (by omega)).trans HV.out.2.1) HIY.out HZY.out HOY.out ?_
          refine hK.out _ _ (HK7.out _ (below_setRow hHeld4.2.2 (by omega) _)) (fun hHeld5 => ?_)
          clear hK K
          (try simp only [Act.put, List.getElem_toArray, List.getElem_cons_succ, List.getElem_cons_zero, List.setIfInBounds_toArray, List.set_cons_zero, List.set_cons_succ])
          refine wpAnyF_done (by kernel_rfl) ?_ _
          have h3 := two_set (P := sd) (X := yd) HV.out.2.2 HV.out.1 HV.out.2.1 (by omega) (by omega) (by omega)
          generalize hW2 : ((((W1.alloc (.cells (zeros 32) 37)).alloc (.cells (zeros 32) 37)).drew.setRow (W1.heap.size + 1) sd).setRow W1.heap.size yd) = W2 at h3
          have HR2 := Lib.hid ((h3.2.2.block _ (blk_lt HRR1.out)).trans HRR1.out)
          have HP2 := Lib.hid ((h3.2.2.block _ (blk_lt HPP1.out)).trans HPP1.out)
          have HQ2 := Lib.hid ((h3.2.2.block _ (blk_lt HQQ1.out)).trans HQQ1.out)
          have HBK2 := Lib.hid (HBK1.out.below h3.2.2)
          have HT2 : Hid (Turns S w W2) := Lib.hid (HT1.out.trans (S' := S) (Turns.of_below h3.2.2) (fun _ _ z => z))
          have HA2 := Lib.hid h3.1
          have HB2 := Lib.hid h3.2.1
          have HPQ2 : Hid (p < (W1.heap.size + 1) ∧ q < (W1.heap.size + 1) ∧ p < W1.heap.size ∧ q < W1.heap.size ∧ w.heap.size + 1 < (W1.heap.size + 1) ∧ w.heap.size + 1 < W1.heap.size ∧ (W1.heap.size + 1) ≠ W1.heap.size) := Lib.hid (by have := blk_lt HPP1.out; have := blk_lt HQQ1.out; have := blk_lt HRR1.out; omega)
          have HNP : Hid (¬ S' (W1.heap.size + 1) ∧ ¬ S' W1.heap.size) := Lib.hid ⟨fun z => by have := HBK1.out.sub z; omega, fun z => by have := HBK1.out.sub z; omega⟩
          have HLW : Hid (w.heap.size ≤ (W1.heap.size + 1) ∧ w.heap.size ≤ W1.heap.size) := Lib.hid (by have := HT1.out.size; omega)
          clear hW2 hHeld hHeld2 hHeld3 hHeld4 hHeld5 h3 HK7 HV HP15 HRR1 HPP1 HQQ1 HBK1 HT1
          generalize hp7 : (W1.heap.size + 1) = a16 at *
          generalize hq7 : W1.heap.size = a17 at *
          clear hp7 hq7
          obtain ⟨kd, hkd⟩ : ∃ kd, kd = k / 2 ^ d := ⟨_, rfl⟩
          have hkdb : kd ≤ 1024 := by rw [hkd]; exact Nat.le_trans (Nat.div_le_self _ _) (by omega)
          have HKD := Lib.hid hkd
          rw [← hkd] at HP2
          have c0 := blk_cell HP2.out 0
          have c1 := blk_cell HP2.out 1
          simp only [List.getElem?_toArray, List.getElem?_cons_zero, List.getElem?_cons_succ] at c0 c1
          have HRT := Lib.hid (fun W => right_any d kd (by omega) W)
          have HAB := Lib.hid (fun W => above_any d kd (by omega) (by omega) W)
          clear hkd hxa
          by_cases hpar : kd % 2 = 1
          · have hpb : (kd % 2 == 1) = true := by rw [beq_iff_eq]; exact hpar
            rw [hpb] at HRT
            go_wp2_with fail
            refine (HRT.out _).mono ?_
            rintro e w4 ⟨rfl, hb4⟩
            have HA4 := Lib.hid ((hb4.block _ (blk_lt HA2.out)).trans HA2.out)
            have HB4 := Lib.hid ((hb4.block _ (blk_lt HB2.out)).trans HB2.out)
            have HBK4 := Lib.hid (HBK2.out.below hb4)
            have HT4 : Hid (Turns S w w4) := Lib.hid (HT2.out.trans (S' := S) (Turns.of_below hb4) (fun _ _ z => z))
            obtain ⟨W5, hW5⟩ : ∃ W5, W5 = (w4.setRow a16 yd).setRow a17 sd := ⟨_, rfl⟩
            have h5 : ∀ j, j ≠ a16 → j ≠ a17 → W5.heap[j]? = w4.heap[j]? := fun j h1 h2 => by rw [hW5]; exact (setRow_other _ _ _ _ h2).trans (setRow_other _ _ _ _ h1)
            have HA5 : Hid (W5.heap[a16]? = some (.cells yd 37 (0, 0))) := Lib.hid (by rw [hW5]; exact (setRow_other _ _ _ _ (by have := HPQ2.out; omega)).trans (setRow_heap _ _ _ _ _ _ HA4.out))
            have HB5 : Hid (W5.heap[a17]? = some (.cells sd 37 (0, 0))) := Lib.hid (by rw [hW5]; exact setRow_heap _ _ _ _ _ _ ((setRow_other _ _ _ _ (by have := HPQ2.out; omega)).trans HB4.out))
            have HP5 := Lib.hid ((h5 p (by have := HPQ2.out; omega) (by have := HPQ2.out; omega)).trans ((hb4.block _ (blk_lt HP2.out)).trans HP2.out))
            have HQ5 := Lib.hid ((h5 q (by have := HPQ2.out; omega) (by have := HPQ2.out; omega)).trans ((hb4.block _ (blk_lt HQ2.out)).trans HQ2.out))
            have HR5 := Lib.hid ((h5 (w.heap.size + 1) (by have := HPQ2.out; omega) (by have := HPQ2.out; omega)).trans ((hb4.block _ (blk_lt HR2.out)).trans HR2.out))
            have HBK5 : Hid (IsBook W5 b g S' Tx' sh') := Lib.hid (by rw [hW5]; exact bk_setRow (bk_setRow HBK4.out HNP.out.1 _) HNP.out.2 _)
            have HT5 : Hid (Turns S w W5) := Lib.hid (by rw [hW5]; exact tS_setRow (tS_setRow HT4.out HLW.out.1 _) HLW.out.2 _)
            have HSY : Hid (sd.size = yd.size) := Lib.hid (HZS.out.symm.trans HZY.out)
            have HYS : Hid (yd.size = sd.size) := Lib.hid HSY.out.symm
            have HBX : Hid ((w4.setRow a16 yd).heap[a17]? = some (.cells yd 37 (0, 0))) := Lib.hid ((setRow_other _ _ _ _ (by have := HPQ2.out; omega)).trans HB4.out)
            have HW5 := Lib.hid hW5
            clear hW5 h5 hb4 c0 c1
            have c0 := blk_cell HP5.out 0
            have c1 := blk_cell HP5.out 1
            simp only [List.getElem?_toArray, List.getElem?_cons_zero, List.getElem?_cons_succ] at c0 c1
            go_wp2_with (first
              | (with_reducible refine wpList_load_row rfl 37 (.tmp 17) rfl _ rfl 37 _ _ _ HB4.out Try.underlying37 rfl HIY.out ?_)
              | (with_reducible refine wpList_load_row rfl 37 (.tmp 16) rfl _ rfl 37 _ _ _ HA4.out Try.underlying37 rfl HIS.out ?_)
              | (with_reducible refine wpList_store_row rfl 37 (.tmp 16) (.tmp 51) rfl _ _ rfl rfl 37 _ HA4.out HIY.out HSY.out HOY.out ?_)
              | (with_reducible refine wpList_store_row rfl 37 (.tmp 17) (.tmp 52) rfl _ _ rfl rfl 37 _ HBX.out HIS.out HYS.out HOS.out ?_; rw [← HW5.out]))
            refine (HAB.out _).mono ?_
            rintro e w6 ⟨rfl, hb6⟩
            have HA6 := Lib.hid ((hb6.block _ (blk_lt HA5.out)).trans HA5.out)
            have HB6 := Lib.hid ((hb6.block _ (blk_lt HB5.out)).trans HB5.out)
            have HP6 := Lib.hid ((hb6.block _ (blk_lt HP5.out)).trans HP5.out)
            have HQ6 := Lib.hid ((hb6.block _ (blk_lt HQ5.out)).trans HQ5.out)
            have HR6 := Lib.hid ((hb6.block _ (blk_lt HR5.out)).trans HR5.out)
            have HBK6 := Lib.hid (HBK5.out.below hb6)
            have HT6 : Hid (Turns S w w6) := Lib.hid (HT5.out.trans (S' := S) (Turns.of_below hb6) (fun _ _ z => z))
            clear hb6 c0 c1
            obtain ⟨W7, hW7⟩ : ∃ W7, W7 = w6.setRow p #[.int .i64 ((d : Int) + 1), .int .i64 ((kd : Int) / 2)] := ⟨_, rfl⟩
            have HA7 : Hid (W7.heap[a16]? = some (.cells yd 37 (0, 0))) := Lib.hid (by rw [hW7]; exact (setRow_other _ _ _ _ (by have := HPQ2.out; omega)).trans HA6.out)
            have HB7 : Hid (W7.heap[a17]? = some (.cells sd 37 (0, 0))) := Lib.hid (by rw [hW7]; exact (setRow_other _ _ _ _ (by have := HPQ2.out; omega)).trans HB6.out)
            have HP7 : Hid (W7.heap[p]? = some (.cells #[.int .i64 ((d : Int) + 1), .int .i64 ((kd : Int) / 2)] 64 (0, 0))) := Lib.hid (by rw [hW7]; exact setRow_heap _ _ _ _ _ _ HP6.out)
            have HQ7 : Hid (W7.heap[q]? = some (.cells sd 37 (0, 0))) := Lib.hid (by rw [hW7]; exact (setRow_other _ _ _ _ (by have := HPQ.out; omega)).trans HQ6.out)
            have HR7 : Hid (W7.heap[w.heap.size + 1]? = some (.cells (zeros 32) 37 (0, 0))) := Lib.hid (by rw [hW7]; exact (setRow_other _ _ _ _ (by have := HPQ.out; omega)).trans HR6.out)
            have HBK7 : Hid (IsBook W7 b g S' Tx' sh') := Lib.hid (by rw [hW7]; exact bk_setRow HBK6.out HSN.out.2.1 _)
            have HT7 : Hid (Turns S w W7) := Lib.hid (by rw [hW7]; exact tS_setRow HT6.out (by have := HPQ.out; omega) _)
            have HPS := Lib.hid (psum_any b g (d + 1) (kd / 2) (ps d) (upS k x ps d) S' Tx' sh' W7 HBK7.out (by omega) (by omega) HYD.out HSD.out)
            rw [Int.natCast_add, Int.natCast_ediv, Int.natCast_one, show ((2 : Nat) : Int) = 2 from rfl] at HPS
            rw [← HYDD.out, ← HSDD.out] at HPS
            obtain ⟨da, hda⟩ : ∃ z, z = digA (txt 1 [putL 1 (d + 1), putL 4 (kd / 2), (ps d), (upS k x ps d)]) := ⟨_, rfl⟩
            have hda2 : da.size = 32 := by rw [hda]; unfold digA; rw [rowV_size]
            have HIA := Lib.hid (info_dig hda2)
            have HOA : Hid (da.all (·.oneCell') = true) := Lib.hid (by rw [hda]; exact one_dig _)
            have HZA : Hid (sd.size = da.size) := Lib.hid (by rw [hda2, ← HZS.out]; simp [zeros])
            have HDA := Lib.hid hda
            have hUP : da = dA (upS k x ps (d + 1)) := by
              rw [hda, upS, ← HKD.out]
              have e1 : k / 2 ^ (d + 1) = kd / 2 := by rw [HKD.out, Nat.pow_succ, Nat.div_div_eq_div_mul]
              rw [e1, if_pos hpar, if_pos hpar]
              rfl
            have HUP := Lib.hid hUP
            have HW7 := Lib.hid hW7
            have HKE : Hid (kd / 2 = k / 2 ^ (d + 1)) := Lib.hid (by rw [HKD.out, Nat.pow_succ, Nat.div_div_eq_div_mul])
            clear hW7 hda hda2 hUP
            have c0 := blk_cell HP7.out 0
            have c1 := blk_cell HP7.out 1
            simp only [List.getElem?_toArray, List.getElem?_cons_zero, List.getElem?_cons_succ] at c0 c1
            go_wp2_with (first
              | (with_reducible refine wpList_store_row rfl 64 (.tmp 12) (.tmp 54) rfl _ _ rfl rfl 64 _ HP6.out (info_pl2 _ _) (sz_pl _ _ _ _) (one_pl _ _) ?_; rw [← HW7.out])
              | (with_reducible refine wpList_load_row rfl 37 (.tmp 16) rfl _ rfl 37 _ _ _ HA7.out Try.underlying37 rfl HIY.out ?_)
              | (with_reducible refine wpList_load_row rfl 37 (.tmp 17) rfl _ rfl 37 _ _ _ HB7.out Try.underlying37 rfl HIS.out ?_))
            refine (HPS.out).mono ?_
            rintro e w8 ⟨he, ht8, hb8⟩
            rw [← HDA.out] at he
            subst he
            have HQ8 := Lib.hid (turnsU ht8 HSN.out.2.2 HQ7.out)
            have HT8 : Hid (Turns S w w8) := Lib.hid (HT7.out.trans (S' := S') ht8 (fun j hj hj' => (HSS.out j hj').elim id (fun c => by omega)))
            have HR8 := turnsU ht8 HSN.out.1 HR7.out
            have HP8 := turnsU ht8 HSN.out.2.1 HP7.out
            have hlp := blk_lt HP7.out
            have hlq := blk_lt HQ7.out
            have hlr := blk_lt HR7.out
            have hsz7 := HT7.out.size
            obtain ⟨W9, hW9⟩ : ∃ W9, W9 = w8.setRow q da := ⟨_, rfl⟩
            have H9 : Hid (UpInv w b g k p q S x ps m (.int .i64 ((d : Int) + 1)) W9) := Lib.hid (by
              rw [hW9]
              refine ⟨d + 1, rfl, hlt, (setRow_other _ _ _ _ (by have := HPQ.out; omega)).trans HR8, ?_, ?_, tS_setRow HT8.out (by have := HPQ.out; omega) _, _, _, _, bk_setRow hb8 (fun z => z.elim HSN.out.2.2 (fun c => by omega)) _, fun j hj => hj.elim (HSS.out j) (fun c => .inr (by omega)), fun z => z.elim HSN.out.1 (fun c => by omega), fun z => z.elim HSN.out.2.1 (fun c => by omega), fun z => z.elim HSN.out.2.2 (fun c => by omega)⟩
              · rw [← HKE.out, Int.natCast_add, Int.natCast_ediv]
                exact (setRow_other _ _ _ _ (by have := HPQ.out; omega)).trans HP8
              · rw [← HUP.out]
                exact setRow_heap _ _ _ _ _ _ HQ8.out)
            have HW9 := Lib.hid hW9
            clear ht8 hb8 HR8 HP8 hlp hlq hlr hsz7 hW9
            go_wp2_with (with_reducible refine wpList_store_row rfl 37 (.tmp 13) (.tmp 59) rfl _ _ rfl rfl 37 _ HQ8.out HIA.out HZA.out HOA.out ?_; rw [← HW9.out])
            go_roundw
            case rel => exact H9.out
            case measure => simp [intOf]; omega
          · have hpb : (kd % 2 == 1) = false := by rw [beq_eq_false_iff_ne]; exact hpar
            rw [hpb] at HRT
            go_wp2_with fail
            refine (HRT.out _).mono ?_
            rintro e w4 ⟨rfl, hb4⟩
            have HA5 := Lib.hid ((hb4.block _ (blk_lt HA2.out)).trans HA2.out)
            have HB5 := Lib.hid ((hb4.block _ (blk_lt HB2.out)).trans HB2.out)
            have HP5 := Lib.hid ((hb4.block _ (blk_lt HP2.out)).trans HP2.out)
            have HQ5 := Lib.hid ((hb4.block _ (blk_lt HQ2.out)).trans HQ2.out)
            have HR5 := Lib.hid ((hb4.block _ (blk_lt HR2.out)).trans HR2.out)
            have HBK5 := Lib.hid (HBK2.out.below hb4)
            have HT5 : Hid (Turns S w w4) := Lib.hid (HT2.out.trans (S' := S) (Turns.of_below hb4) (fun _ _ z => z))
            clear hb4 c0 c1
            have c0 := blk_cell HP5.out 0
            have c1 := blk_cell HP5.out 1
            simp only [List.getElem?_toArray, List.getElem?_cons_zero, List.getElem?_cons_succ] at c0 c1
            go_wp2_with fail
            refine (HAB.out _).mono ?_
            rintro e w6 ⟨rfl, hb6⟩
            have HA6 := Lib.hid ((hb6.block _ (blk_lt HA5.out)).trans HA5.out)
            have HB6 := Lib.hid ((hb6.block _ (blk_lt HB5.out)).trans HB5.out)
            have HP6 := Lib.hid ((hb6.block _ (blk_lt HP5.out)).trans HP5.out)
            have HQ6 := Lib.hid ((hb6.block _ (blk_lt HQ5.out)).trans HQ5.out)
            have HR6 := Lib.hid ((hb6.block _ (blk_lt HR5.out)).trans HR5.out)
            have HBK6 := Lib.hid (HBK5.out.below hb6)
            have HT6 : Hid (Turns S w w6) := Lib.hid (HT5.out.trans (S' := S) (Turns.of_below hb6) (fun _ _ z => z))
            clear hb6 c0 c1
            obtain ⟨W7, hW7⟩ : ∃ W7, W7 = w6.setRow p #[.int .i64 ((d : Int) + 1), .int .i64 ((kd : Int) / 2)] := ⟨_, rfl⟩
            have HA7 : Hid (W7.heap[a16]? = some (.cells sd 37 (0, 0))) := Lib.hid (by rw [hW7]; exact (setRow_other _ _ _ _ (by have := HPQ2.out; omega)).trans HA6.out)
            have HB7 : Hid (W7.heap[a17]? = some (.cells yd 37 (0, 0))) := Lib.hid (by rw [hW7]; exact (setRow_other _ _ _ _ (by have := HPQ2.out; omega)).trans HB6.out)
            have HP7 : Hid (W7.heap[p]? = some (.cells #[.int .i64 ((d : Int) + 1), .int .i64 ((kd : Int) / 2)] 64 (0, 0))) := Lib.hid (by rw [hW7]; exact setRow_heap _ _ _ _ _ _ HP6.out)
            have HQ7 : Hid (W7.heap[q]? = some (.cells sd 37 (0, 0))) := Lib.hid (by rw [hW7]; exact (setRow_other _ _ _ _ (by have := HPQ.out; omega)).trans HQ6.out)
            have HR7 : Hid (W7.heap[w.heap.size + 1]? = some (.cells (zeros 32) 37 (0, 0))) := Lib.hid (by rw [hW7]; exact (setRow_other _ _ _ _ (by have := HPQ.out; omega)).trans HR6.out)
            have HBK7 : Hid (IsBook W7 b g S' Tx' sh') := Lib.hid (by rw [hW7]; exact bk_setRow HBK6.out HSN.out.2.1 _)
            have HT7 : Hid (Turns S w W7) := Lib.hid (by rw [hW7]; exact tS_setRow HT6.out (by have := HPQ.out; omega) _)
            have HPS := Lib.hid (psum_any b g (d + 1) (kd / 2) (upS k x ps d) (ps d) S' Tx' sh' W7 HBK7.out (by omega) (by omega) HSD.out HYD.out)
            rw [Int.natCast_add, Int.natCast_ediv, Int.natCast_one, show ((2 : Nat) : Int) = 2 from rfl] at HPS
            rw [← HSDD.out, ← HYDD.out] at HPS
            obtain ⟨da, hda⟩ : ∃ z, z = digA (txt 1 [putL 1 (d + 1), putL 4 (kd / 2), (upS k x ps d), (ps d)]) := ⟨_, rfl⟩
            have hda2 : da.size = 32 := by rw [hda]; unfold digA; rw [rowV_size]
            have HIA := Lib.hid (info_dig hda2)
            have HOA : Hid (da.all (·.oneCell') = true) := Lib.hid (by rw [hda]; exact one_dig _)
            have HZA : Hid (sd.size = da.size) := Lib.hid (by rw [hda2, ← HZS.out]; simp [zeros])
            have HDA := Lib.hid hda
            have hUP : da = dA (upS k x ps (d + 1)) := by
              rw [hda, upS, ← HKD.out]
              have e1 : k / 2 ^ (d + 1) = kd / 2 := by rw [HKD.out, Nat.pow_succ, Nat.div_div_eq_div_mul]
              rw [e1, if_neg hpar, if_neg hpar]
              rfl
            have HUP := Lib.hid hUP
            have HW7 := Lib.hid hW7
            have HKE : Hid (kd / 2 = k / 2 ^ (d + 1)) := Lib.hid (by rw [HKD.out, Nat.pow_succ, Nat.div_div_eq_div_mul])
            clear hW7 hda hda2 hUP
            have c0 := blk_cell HP7.out 0
            have c1 := blk_cell HP7.out 1
            simp only [List.getElem?_toArray, List.getElem?_cons_zero, List.getElem?_cons_succ] at c0 c1
            go_wp2_with (first
              | (with_reducible refine wpList_store_row rfl 64 (.tmp 12) (.tmp 54) rfl _ _ rfl rfl 64 _ HP6.out (info_pl2 _ _) (sz_pl _ _ _ _) (one_pl _ _) ?_; rw [← HW7.out])
              | (with_reducible refine wpList_load_row rfl 37 (.tmp 16) rfl _ rfl 37 _ _ _ HA7.out Try.underlying37 rfl HIS.out ?_)
              | (with_reducible refine wpList_load_row rfl 37 (.tmp 17) rfl _ rfl 37 _ _ _ HB7.out Try.underlying37 rfl HIY.out ?_))
            refine (HPS.out).mono ?_
            rintro e w8 ⟨he, ht8, hb8⟩
            rw [← HDA.out] at he
            subst he
            have HQ8 := Lib.hid (turnsU ht8 HSN.out.2.2 HQ7.out)
            have HT8 : Hid (Turns S w w8) := Lib.hid (HT7.out.trans (S' := S') ht8 (fun j hj hj' => (HSS.out j hj').elim id (fun c => by omega)))
            have HR8 := turnsU ht8 HSN.out.1 HR7.out
            have HP8 := turnsU ht8 HSN.out.2.1 HP7.out
            have hlp := blk_lt HP7.out
            have hlq := blk_lt HQ7.out
            have hlr := blk_lt HR7.out
            have hsz7 := HT7.out.size
            obtain ⟨W9, hW9⟩ : ∃ W9, W9 = w8.setRow q da := ⟨_, rfl⟩
            have H9 : Hid (UpInv w b g k p q S x ps m (.int .i64 ((d : Int) + 1)) W9) := Lib.hid (by
              rw [hW9]
              refine ⟨d + 1, rfl, hlt, (setRow_other _ _ _ _ (by have := HPQ.out; omega)).trans HR8, ?_, ?_, tS_setRow HT8.out (by have := HPQ.out; omega) _, _, _, _, bk_setRow hb8 (fun z => z.elim HSN.out.2.2 (fun c => by omega)) _, fun j hj => hj.elim (HSS.out j) (fun c => .inr (by omega)), fun z => z.elim HSN.out.1 (fun c => by omega), fun z => z.elim HSN.out.2.1 (fun c => by omega), fun z => z.elim HSN.out.2.2 (fun c => by omega)⟩
              · rw [← HKE.out, Int.natCast_add, Int.natCast_ediv]
                exact (setRow_other _ _ _ _ (by have := HPQ.out; omega)).trans HP8
              · rw [← HUP.out]
                exact setRow_heap _ _ _ _ _ _ HQ8.out)
            have HW9 := Lib.hid hW9
            clear ht8 hb8 HR8 HP8 hlp hlq hlr hsz7 hW9
            go_wp2_with (with_reducible refine wpList_store_row rfl 37 (.tmp 13) (.tmp 59) rfl _ _ rfl rfl 37 _ HQ8.out HIA.out HZA.out HOA.out ?_; rw [← HW9.out])
            go_roundw
            case rel => exact H9.out
            case measure => simp [intOf]; omega
      · obtain rfl : d = m := by omega
        have hsd := upS_dig (k := k) (ps := ps) HX.out d
        have hsz32 : (dA (upS k x ps d)).size = 32 := by rw [rowV_size]
        have HIS := Lib.hid (info_dig hsz32)
        have HRT2 := Lib.hid (troot_any b g n (upS k x ps d) S' Tx' sh' wr hb (by omega) hsd)
        obtain ⟨sd, hsdd⟩ : ∃ z, z = dA (upS k x ps d) := ⟨_, rfl⟩
        rw [← hsdd] at HIS HRT2 hq
        obtain ⟨da, hda⟩ : ∃ z, z = digA (txt 2 [putL 4 n, upS k x ps d]) := ⟨_, rfl⟩
        have hda2 : da.size = 32 := by rw [hda]; unfold digA; rw [rowV_size]
        have HIA := Lib.hid (info_dig hda2)
        have HOA : Hid (da.all (·.oneCell') = true) := Lib.hid (by rw [hda]; exact one_dig _)
        have HZR : Hid ((zeros 32).size = da.size) := Lib.hid (by rw [hda2]; simp [zeros])
        have HDA := Lib.hid hda
        have HQ := Lib.hid hq
        have HR := Lib.hid hr
        have HT := Lib.hid ht
        have HSS := Lib.hid hs'
        have HSR := Lib.hid hsr
        clear hsd hsz32 hsdd hda hda2 hq hr ht hs' hsr hp hb hsp hsq H0
        go_wp2_with (with_reducible refine wpList_load_row rfl 37 (.tmp 13) rfl _ rfl 37 _ _ _ HQ.out Try.underlying37 rfl HIS.out ?_)
        refine (HRT2.out).mono ?_
        rintro e w8 ⟨he, ht8, hb8⟩
        rw [← HDA.out] at he
        subst he
        have HR8 := Lib.hid (turnsU ht8 HSR.out HR.out)
        have HF := Lib.hid (setRow_heap _ _ _ da _ _ HR8.out)
        have HU : Hid (UpYes w b g S (txt 2 [putL 4 n, upS k x ps d]) (.returned (.tuple #[.agg da, .int .i64 0])) (w8.setRow (w.heap.size + 1) da)) := Lib.hid (by
          have := blk_lt HR.out
          have := HT.out.size
          refine ⟨by rw [HDA.out], tS_setRow (HT.out.trans (S' := S') ht8 (fun j hj hj' => (HSS.out j hj').elim id (fun c => by omega))) (by omega) _, _, _, _, bk_setRow hb8 (fun z => z.elim HSR.out (fun c => by omega)) _, fun j hj => hj.elim (HSS.out j) (fun c => .inr (by omega))⟩)
        clear ht8 hb8
        go_wp2_with (with_reducible refine wpList_store_row rfl 37 (.tmp 10) (.tmp 64) rfl _ _ rfl rfl 37 _ HR8.out HIA.out HZR.out HOA.out ?_)
        exact bodyPost_ret (v := .tuple #[.agg da, .int .i64 0]) (rts_row rfl _ _ _ 37 _ (0, 0) _ _ rfl rfl HF.out Try.underlying37 rfl HIA.out) rfl HU.out
end
section
open Go.RowKit Go
set_option linter.unusedVariables false
set_option linter.unusedSimpArgs false
def DigNew (w : World) (n : Nat) (ls : Nat → List Nat) (e : Ending) (w' : World) : Prop := ∃ A c, e = .returned (.slice A n c) ∧ n ≤ c ∧ DgS w' A n ls ∧ Below w.heap.size w w' ∧ ∀ ad, A = some ad → w.heap.size ≤ ad.block
theorem tdig_new {w W : World} {n : Nat} {ls : Nat → List Nat} {v : Value} (h : W.ownsRow w.heap.size DgT 32 v n (flatD ls n)) (hb : Below w.heap.size w W) (hd : ∀ k, IsDig (ls k)) : DigNew w n ls (.returned v) W := by
  by_cases hn : 0 < n
  · obtain ⟨g, cap, hv, hg, hgl, hc, hm, hx⟩ := own_at h hn
    refine ⟨_, cap, by rw [hv], hc, ⟨fun _ => ⟨g, 0, rfl, hgl, fun k hk j u hu => ?_⟩, hd⟩, hb, fun ad e => by injection e with e; subst e; exact hg⟩
    have hj : j < 32 := by have := (List.getElem?_eq_some_iff.1 hu).1; simpa [rowV_size] using this
    rw [show 0 + k * 32 + j = k * 32 + j by omega]
    exact hx _ _ ((flatD_at ls k j hj n hk).trans hu)
  · obtain rfl : n = 0 := by omega
    obtain ⟨h1, h2⟩ := h
    rcases h2 with ⟨h2, _⟩ | ⟨g, cap, cur, hv, hbg, hh, hnc, hm, _⟩
    · exact ⟨none, 0, by rw [h2], Nat.le_refl _, ⟨fun c => by omega, hd⟩, hb, fun ad e => nomatch e⟩
    · exact ⟨_, cap, by rw [hv], Nat.zero_le _, ⟨fun c => by omega, hd⟩, hb, fun ad e => by injection e with e; subst e; exact hbg⟩
set_option maxHeartbeats 2000000 in
set_option maxRecDepth 100000 in
theorem digests_new (n c : Nat) (A : Option Addr) (ls : Nat → List Nat) (w : World) (h : DgS w A n ls) (hn : n ≤ 20) :
    Calls Try.prog 9 #[.slice A n c] w (DigNew w n ls) := by
  have hz := zero32
  have HH := Lib.hid h
  clear h
  go_enter Try.func9, Try.ntmps9
  go_wp2_with fail
  go_loopg [3, 8] n (fun gk v iv W => ∃ k : Nat, iv = .int .i64 (k : Int) ∧ k + gk = n ∧ W.ownsRow w.heap.size DgT 32 v k (flatD ls k) ∧ Below w.heap.size w W)
  case atStart => exact ⟨0, rfl, by omega, World.ownsRow_nil _ _ _ _, Below.refl _ _⟩
  case round =>
    obtain ⟨k, rfl, hk, hown, hb⟩ := hrel
    have HOW := Lib.hid hown
    have HB := Lib.hid hb
    clear hown hb
    by_cases hlt : k < n
    · obtain ⟨b, o, rfl, hbl, hrg⟩ := HH.out.1 (by omega)
      obtain ⟨xd, hxd⟩ : ∃ z, z = dA (ls k) := ⟨_, rfl⟩
      have hx2 : xd.size = 32 := by rw [hxd, rowV_size]
      have HI := Lib.hid (info_d32 hx2)
      have HIL : Hid ((Try.prog.info? 34).map (·.size) = some xd.toList.length) := Lib.hid (by rw [Array.length_toList]; exact info_d32 hx2)
      have hone : xd.all (·.oneCell') = true := by rw [hxd]; exact dA_one _
      have HO := Lib.hid hone
      have HX2 := Lib.hid hx2
      have HZ : Hid ((zeros 32).size = xd.size) := Lib.hid (by rw [hx2]; simp [zeros])
      have HR : Hid (wr.rangeAt b (o + k * 32) xd.toList) := Lib.hid (by rw [hxd]; exact range_of (HB.out.block b hbl) (hrg k hlt))
      have hxa : xd.toList.toArray = xd := by simp
      have ho8 := heap_alloc_new wr (.cells (zeros 32) 34)
      have HO8 := Lib.hid ho8
      obtain ⟨V8, hV8⟩ : ∃ V8, V8 = (wr.alloc (.cells (zeros 32) 34)).setRow wr.heap.size xd := ⟨_, rfl⟩
      have hb8 : Below wr.heap.size wr V8 := by rw [hV8]; exact below_setRow (g := wr.heap.size) ((Below.refl _ _).alloc (Nat.le_refl _) _) (Nat.le_refl _) xd
      have HP8 : Hid (V8.heap[wr.heap.size]? = some (.cells xd 34 (0, 0))) := Lib.hid (by rw [hV8]; exact setRow_heap _ _ _ xd _ _ ho8)
      have hown8 : V8.ownsRow w.heap.size DgT 32 u3 k (flatD ls k) := by
        obtain ⟨a1, a2⟩ := HOW.out
        refine ⟨a1, ?_⟩
        rcases a2 with a2 | ⟨g, cap, cur, hv, hbg, hh, hr⟩
        · exact .inl a2
        · exact .inr ⟨g, cap, cur, hv, hbg, (hb8.block g (blk_lt hh)).trans hh, hr⟩
      have HOW8 := Lib.hid hown8
      have HB8 := Lib.hid (HB.out.trans (hb8.mono HB.out.size))
      have HXD := Lib.hid hxd
      have HV8 := Lib.hid hV8
      clear hrg hxd hx2 hone ho8 hV8 hb8 hown8
      go_wp2_with (first
        | (with_reducible refine wpList_load_mid rfl 34 (.tmp 10) rfl b (o + k * 32) rfl xd.toList _ HR.out Try.underlying34 rfl HIL.out ?_)
        | (with_reducible refine wpList_store_row rfl 34 (.tmp 5) (.tmp 11) rfl _ _ rfl (by simp [Act.eval, Act.put]) 34 _ HO8.out HI.out HZ.out HO.out ?_; rw [← HV8.out])
        | (with_reducible refine wpList_load_row rfl 34 (.tmp 5) rfl _ rfl 34 _ _ _ HP8.out Try.underlying34 rfl HI.out ?_)
        | (with_reducible refine wpList_build1 rfl (.tmp 13) rfl xd HX2.out (by simp [Act.eval, Act.put]) ?_)
        | (at_builtin; refine wp_appD V8 rfl (.tmp 12) (.tmp 14) rfl w.heap.size u3 k (flatD ls k) xd HX2.out HO.out rfl HOW8.out rfl (by omega) HB8.out.size ?_; intro v' w1 hown1 hb1; have HOW1 := Lib.hid hown1; have HB1 := Lib.hid (HB8.out.trans hb1); clear hown1 hb1))
      go_roundg (n - (k + 1))
      case measure => omega
      case rel => exact ⟨k + 1, by go_num, by omega, by rw [flatD_snoc, ← HXD.out]; exact HOW1.out, HB1.out⟩
    · obtain rfl : k = n := by omega
      have HE := Lib.hid (tdig_new HOW.out HB.out HH.out.2)
      go_wp2_with fail
      go_ret
      exact HE.out
theorem wpList_load_row_wU {P : Program} {ops : Array Oper} {rest : List Oper} {o : Oper} {a : Act} {w : World} {Q : Exit → Act → World → Prop} (hw : Region.wanted o (yielded ops a.tmps) = true) (ty : TypeId) (x : Operand) (ho : o.op = .load ty x)
    (g : Nat) (hx : a.eval x = .pointer (some ⟨g, 0, none⟩)) (t : TypeId) (cs : Array Value) (fr : Nat × Nat) (d : TypeDesc) (hg : w.heap[g]? = some (.cells cs t fr))
    (hu : P.underlying ty = some d) (hd : (match d with | .struct _ | .array _ _ => true | _ => false) = true) (hi : (P.info? ty).map (·.size) = some cs.size)
    (h : wpList P ops Q rest (a.put o.dst (.agg cs)) w) : wpList P ops Q (o :: rest) a w :=
  wpList_step fun K hK => by rw [if_pos hw]; exact wp_load_row ty x ho g hx t cs fr d hg hu hd hi (hK _ _ h)
theorem wpList_binU {P : Program} {ops : Array Oper} {rest : List Oper} {o : Oper} {a : Act} {w : World} {Q : Exit → Act → World → Prop} (hw : Region.wanted o (yielded ops a.tmps) = true) (op : BinOp) (t t2 : TypeId) (x y : Operand) (ho : o.op = .binOp op t x y t2) (vx vy v : Value) (hx : a.eval x = vx) (hy : a.eval y = vy) (hg : (eqGuard op t x y vx vy).run P w = .ok () w) (hr : (binOp op t vx vy).run P w = .ok v w)
    (h : wpList P ops Q rest (a.put o.dst v) w) : wpList P ops Q (o :: rest) a w := wpList_step fun K hK => by
  rw [if_pos hw]
  have he := exec_bin op t t2 x y ho vx vy v hx hy hg hr
  unfold Oper.wp
  rw [he]
  exact hK _ _ h
theorem zero_eqU (W : World) : (binOp .eql 37 (.agg (zeros 32)) (.agg (zeros 32))).run Try.prog W = .ok (.bool true) W := by
  have h := equal_row 37 32 Try.underlying37 zero32L zero32L zero32_dig.1 zero32_dig.1 W
  have e : dA zero32L = zeros 32 := by kernel_rfl
  rw [← e]
  simp [binOp, Op.equal, Op.maxDepth, h, Result.andThen]
set_option maxRecDepth 100000
end
section
open Go.RowKit Go Go.WideShapes
set_option linter.unusedVariables false
section
variable {H : Type} {enc : TypeId × Value → H} {P : Program} {w W : World} {base b0 : Nat} {spare : Nat → Bool} {held : Bool} {r : Reach}
theorem open_bytes {n : Nat} {t e : TypeId} {v : Value} {d : DataW H} {p : List MemPlace} (ht : P.underlying t = some (.array n e)) (he : P.underlying e = some (.int .u8)) (hc : P.cellsOf e = 1) (hct : P.cellsOf t = n)
    (hv : Value.okWide P W r b0 t v) (h : DataW.Trod enc P w base spare held t v d p) : ∃ l : List Nat, l.length = n ∧ (∀ i, l.getD i 0 < 256) ∧ v = .agg (rowV (bF l) n) := by
  unfold Value.okWide at hv
  rw [ht] at hv
  obtain ⟨cs, rfl, hsz, _⟩ := hv
  rw [hct] at hsz
  obtain ⟨m, hm⟩ := h
  obtain ⟨xs, k, _, _, hl, hxl, hel⟩ := DataW.trod_array ht hm
  have hcell : ∀ i, i < n → ∃ q : Nat, q < 256 ∧ cs[i]? = some (.int .u8 (q : Int)) := fun i hi => by
    have h1 := hel i hi
    rw [hc, Nat.mul_one] at h1
    obtain ⟨y, hy⟩ : ∃ y, xs[i]? = some y := ⟨_, List.getElem?_eq_getElem (by omega)⟩
    rw [hy] at h1
    obtain ⟨z, hz, _, hw⟩ := DataW.trod_int he h1
    have hb := bounds_u8 hw
    refine ⟨z.toNat, by omega, ?_⟩
    have h2 : ((Value.agg cs).cells.toList.drop i)[0]? = some (.int .u8 z) := by
      have := congrArg (fun l => l[0]?) hz
      simpa [List.getElem?_take] using this
    have h3 : cs[i]? = some (.int .u8 z) := by simpa [Value.cells] using h2
    rw [h3]
    congr 2
    omega
  have hq : ∀ i, ∃ q : Nat, q < 256 ∧ (i < n → cs[i]? = some (.int .u8 (q : Int))) := fun i => by
    by_cases hi : i < n
    · obtain ⟨q, h1, h2⟩ := hcell i hi
      exact ⟨q, h1, fun _ => h2⟩
    · exact ⟨0, by omega, fun h => absurd h hi⟩
  refine ⟨(List.range n).map fun i => (hq i).choose, by simp, fun i => ?_, ?_⟩
  · rw [List.getD_eq_getElem?_getD, List.getElem?_map]
    by_cases hi : i < n
    · rw [List.getElem?_range hi]
      exact (hq i).choose_spec.1
    · rw [List.getElem?_eq_none (by simp; omega)]; simp
  · congr 1
    refine rowV_ext hsz fun i hi => ?_
    rw [(hq i).choose_spec.2 hi]
    unfold bF u8
    rw [List.getD_eq_getElem?_getD, List.getElem?_map, List.getElem?_range hi]
    rfl
end
end
end Go.Proofs.Ytogipflmnnmhiaa
