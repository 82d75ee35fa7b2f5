/-
  Joined: TwT, TwU, TwW, TwX, TwY.
-/
import Derived.Test.YtogipflmnnmhiaaTwZ5
import Derived.WalkKit
import Derived.ProofKit
import Derived.OpenShut
import Derived.Deep.Slices
import Derived.Deep.Fields
import Derived.ChangeSame
namespace Go.Proofs.Ytogipflmnnmhiaa
set_option maxRecDepth 100000
section
open Go.RowKit Go
set_option linter.unusedVariables false
set_option linter.unusedSimpArgs false
theorem zero32_cells : dA zero32L = zeros 32 := by kernel_rfl
set_option maxHeartbeats 1000000 in
set_option maxRecDepth 100000 in
theorem tnode_out (T b n D lb cap : Nat) (k : Int) (q : Nat → Nat) (F : Nat → Nat → List Nat) (w : World) (h : TrB w T b n D lb cap q F) (hk : k < 0 ∨ (2 : Int) ^ D ≤ k) (hkb : k ≤ 9223372036854775807) :
    Calls Try.prog 14 #[.pointer (some ⟨T, 0, none⟩), .int .i64 0, .int .i64 k] w fun e w' => e = .returned (.agg (zeros 32)) ∧ Below w.heap.size w w' := by
  have hz := zero_dig
  have hb1 : Below w.heap.size w (w.alloc (.cells (zeros 32) DgT)) := (Below.refl _ _).alloc (Nat.le_refl _) _
  have h1 := h.next hb1
  have k2 := h1.c2
  have kr := h1.row 0 (Nat.zero_le _)
  rw [Nat.sub_zero] at kr
  have HN := Lib.hid (tnone_any T b n D lb cap q F _ h1)
  have HDP := Lib.hid (tdepth_any T b n D lb cap q F _ h1)
  have hD := h.D5
  have hN : ∃ N : Nat, N = 2 ^ D := ⟨_, rfl⟩
  obtain ⟨N, hN⟩ := hN
  have hNi : ((2 : Int) ^ D) = (N : Int) := by rw [hN]; push_cast; rfl
  rw [hNi] at hk
  rw [← hN] at kr
  have HI := Lib.hid (info_dig (cs := zeros 32) (by simp [zeros]))
  have HO : Hid ((zeros 32).all (·.oneCell') = true) := Lib.hid (by kernel_rfl)
  have HX := Lib.hid (heap_alloc_new w (.cells (zeros 32) DgT))
  have HFX := Lib.hid (setRow_heap _ _ _ (zeros 32) _ _ (heap_alloc_new w (.cells (zeros 32) DgT)))
  have HFB := Lib.hid (below_setRow (g := w.heap.size) hb1 (Nat.le_refl _) (zeros 32))
  have a2 : decide ((D : Int) < 0) = false := decide_eq_false (by omega)
  clear h h1 hb1 hN hNi
  rcases hk with hk | hk
  · have a3 : decide (k < 0) = true := decide_eq_true hk
    go_enter Try.func14, Try.ntmps14
    go_wp2_with fail
    refine HN.out.mono ?_
    rintro e w' ⟨rfl, rfl⟩
    go_wp2_with fail
    refine HDP.out.mono ?_
    rintro e w' ⟨rfl, rfl⟩
    go_wp2_with (with_reducible refine wpList_store_row rfl DgT (.tmp 6) (.tmp 35) rfl _ _ rfl rfl DgT _ HX.out HI.out rfl HO.out ?_)
    exact bodyPost_ret (v := .agg (zeros 32)) (results_cell_row rfl _ _ _ DgT _ (0, 0) _ rfl HFX.out Try.underlying37 rfl HI.out) rfl ⟨rfl, HFB.out⟩
  · have a3 : decide (k < 0) = false := decide_eq_false (by omega)
    have a4 : decide ((N : Int) ≤ k) = true := decide_eq_true hk
    go_enter Try.func14, Try.ntmps14
    go_wp2_with fail
    refine HN.out.mono ?_
    rintro e w' ⟨rfl, rfl⟩
    go_wp2_with fail
    refine HDP.out.mono ?_
    rintro e w' ⟨rfl, rfl⟩
    go_wp2_with (with_reducible refine wpList_store_row rfl DgT (.tmp 6) (.tmp 35) rfl _ _ rfl rfl DgT _ HX.out HI.out rfl HO.out ?_)
    exact bodyPost_ret (v := .agg (zeros 32)) (results_cell_row rfl _ _ _ DgT _ (0, 0) _ rfl HFX.out Try.underlying37 rfl HI.out) rfl ⟨rfl, HFB.out⟩
/-- leaf k of n, or noughts -/
def leafK (n : Nat) (ls : Nat → List Nat) (k : Int) : List Nat := if 0 ≤ k ∧ k < (n : Int) then ls k.toNat else zero32L
end
section
open Go.RowKit Go
set_option linter.unusedVariables false
set_option linter.unusedSimpArgs false
theorem fill_one (xd : Array Value) (hx : xd.size = 32) : Instr.fill (fun i => some (i * 32, 32)) ((Array.range (1 * 32)).map ((Value.agg (zeros 32)).cells[· % (Value.agg (zeros 32)).cells.size]!)) [(0, .agg xd)] = some xd := by
  have h := Go.Great.fill_whole (s := 32) (by omega) [.agg xd] ((Array.range (1 * 32)).map ((Value.agg (zeros 32)).cells[· % (Value.agg (zeros 32)).cells.size]!)) (fun v hv => by
    have e : v = .agg xd := by simpa using hv
    rw [e]; exact hx) (by simp)
  have e1 : (([Value.agg xd].flatMap fun v => v.cells.toList).toArray) = xd := by simp [Value.cells]
  rw [e1] at h
  exact h
theorem wpList_build1 {ops : Array Oper} {rest : List Oper} {o : Oper} {a : Act} {w : World} {Q : Exit → Act → World → Prop} (hg : o.guard = none) (x : Operand) (ho : o.op = .buildSlice 30 1 #[(0, x)]) (xd : Array Value) (hx2 : xd.size = 32) (hx : a.eval x = .agg xd)
    (h : wpList Try.prog ops Q rest (a.put o.dst (.slice (some ⟨w.heap.size, 0, none⟩) 1 1)) (w.alloc (.cells xd DgT))) : wpList Try.prog ops Q (o :: rest) a w := by
  obtain ⟨ie, h0, h1, h2, h3⟩ := info_parts dg_info
  refine wpList_buildSlice hg 30 DgT 1 #[(0, x)] ho xd ie _ Try.underlying30 h0 h1 (by rw [h2]; omega) (by rw [h2]; omega) ?_ h
  rw [h2]
  simp only [List.map_toArray, List.map_cons, List.map_nil, hx]
  exact fill_one xd hx2
def flatD (ls : Nat → List Nat) (k : Nat) : List Value := (List.range k).flatMap fun i => (dA (ls i)).toList
theorem flatD_snoc (ls : Nat → List Nat) (k : Nat) : flatD ls (k + 1) = flatD ls k ++ (dA (ls k)).toList := by
  unfold flatD
  rw [List.range_succ, List.flatMap_append]
  simp
theorem flatD_len (ls : Nat → List Nat) : ∀ k, (flatD ls k).length = k * 32
  | 0 => by simp [flatD]
  | k + 1 => by rw [flatD_snoc, List.length_append, flatD_len ls k, Array.length_toList, rowV_size]; omega
theorem flatD_at (ls : Nat → List Nat) (i j : Nat) (hj : j < 32) : ∀ n, i < n → (flatD ls n)[i * 32 + j]? = (dA (ls i)).toList[j]?
  | 0, h => by omega
  | n + 1, h => by
    rw [flatD_snoc]
    by_cases e : i = n
    · subst e
      rw [List.getElem?_append_right (by rw [flatD_len]; omega), flatD_len, show i * 32 + j - i * 32 = j by omega]
    · rw [List.getElem?_append_left (by rw [flatD_len]; omega)]
      exact flatD_at ls i j hj n (by omega)
theorem wp_appD {ops : Array Oper} {rest : List Oper} {o : Oper} {a : Act} {Q : Exit → Act → World → Prop} (W : World) (hgd : o.guard = none) (s x : Operand)
    (ho : o.op = .call { callee := .builtin .append, args := #[s, x], argTypes := #[30, 30] })
    (B : Nat) (v : Value) (n : Nat) (xs : List Value) (xd : Array Value) (hx32 : xd.size = 32) (hone : xd.all (·.oneCell') = true) (hs : a.eval s = v) (hown : W.ownsRow B DgT 32 v n xs)
    (hx : a.eval x = .slice (some ⟨W.heap.size, 0, none⟩) 1 1) (hn : n < 1000) (hB : B ≤ W.heap.size)
    (h : ∀ v' w', w'.ownsRow B DgT 32 v' (n + 1) (xs ++ xd.toList) → Below B W w' → wpList Try.prog ops Q rest (a.put o.dst v') w') :
    wpList Try.prog ops Q (o :: rest) a (W.alloc (.cells xd DgT)) := by
  obtain ⟨i0, hi, hz0, hz1, hz2⟩ := info_parts dg_info
  have hnb := heap_alloc_new W (.cells xd DgT)
  refine wpList_append_own _ hgd s x 30 ho B DgT i0 (.agg (zeros 32)) 32 32 Try.underlying30 hi hz0 hz1 hz2 (by simp [Value.cells, zeros]) (by decide) v n xs hs (World.ownsRow.alloc hown _) ⟨W.heap.size, 0, none⟩ 1 1
    xd.toList hx (by rw [Array.length_toList]; omega) ?_ ?_ (by unfold maxLen; omega) (by omega) (by simp; omega) ?_
  · intro j u hj
    have e : (⟨W.heap.size, 0, none⟩ : Addr).add j = ⟨W.heap.size, j, none⟩ := by unfold Addr.add; split <;> simp_all
    rw [e, blk_cell hnb j]
    simpa using hj
  · intro u hu
    exact (Array.all_eq_true_iff_forall_mem.1 hone) u (by simpa using hu)
  · intro v' w1 hown' hg _
    exact h v' w1 hown' (((Below.refl B W).alloc hB _).grown hg (by simp; omega) (fun k hk => (World.ownsRow.lt hown k hk).1))
def DigTo (w : World) (n : Nat) (ls : Nat → List Nat) (e : Ending) (w' : World) : Prop := ∃ A c, e = .returned (.slice A n c) ∧ n ≤ c ∧ DgS w' A n ls ∧ Below w.heap.size w w'
theorem tdig_end {w W : World} {n : Nat} {ls : Nat → List Nat} {v : Value} (h : W.ownsRow w.heap.size DgT 32 v n (flatD ls n)) (hb : Below w.heap.size w W) (hd : ∀ k, IsDig (ls k)) : DigTo w n ls (.returned v) W := by
  by_cases hn : 0 < n
  · obtain ⟨g, cap, hv, hg, hgl, hc, hm, hx⟩ := own_at h hn
    refine ⟨_, cap, by rw [hv], hc, ⟨fun _ => ⟨g, 0, rfl, hgl, fun k hk j u hu => ?_⟩, hd⟩, hb⟩
    have hj : j < 32 := by have := (List.getElem?_eq_some_iff.1 hu).1; simpa [rowV_size] using this
    rw [show 0 + k * 32 + j = k * 32 + j by omega]
    exact hx _ _ ((flatD_at ls k j hj n hk).trans hu)
  · obtain rfl : n = 0 := by omega
    obtain ⟨h1, h2⟩ := h
    rcases h2 with ⟨h2, _⟩ | ⟨g, cap, cur, hv, hbg, hh, hnc, hm, _⟩
    · exact ⟨none, 0, by rw [h2], Nat.le_refl _, ⟨fun c => by omega, hd⟩, hb⟩
    · exact ⟨_, cap, by rw [hv], Nat.zero_le _, ⟨fun c => by omega, hd⟩, hb⟩
set_option maxHeartbeats 2000000 in
set_option maxRecDepth 100000 in
theorem digests_any (n c : Nat) (A : Option Addr) (ls : Nat → List Nat) (w : World) (h : DgS w A n ls) (hn : n ≤ 20) :
    Calls Try.prog 9 #[.slice A n c] w (DigTo w n ls) := by
  have hz := zero32
  have HH := Lib.hid h
  clear h
  go_enter Try.func9, Try.ntmps9
  go_wp2_with fail
  go_loopg [3, 8] n (fun gk v iv W => ∃ k : Nat, iv = .int .i64 (k : Int) ∧ k + gk = n ∧ W.ownsRow w.heap.size DgT 32 v k (flatD ls k) ∧ Below w.heap.size w W)
  case atStart => exact ⟨0, rfl, by omega, World.ownsRow_nil _ _ _ _, Below.refl _ _⟩
  case round =>
    obtain ⟨k, rfl, hk, hown, hb⟩ := hrel
    have HOW := Lib.hid hown
    have HB := Lib.hid hb
    clear hown hb
    by_cases hlt : k < n
    · obtain ⟨b, o, rfl, hbl, hrg⟩ := HH.out.1 (by omega)
      obtain ⟨xd, hxd⟩ : ∃ z, z = dA (ls k) := ⟨_, rfl⟩
      have hx2 : xd.size = 32 := by rw [hxd, rowV_size]
      have HI := Lib.hid (info_d32 hx2)
      have HIL : Hid ((Try.prog.info? 34).map (·.size) = some xd.toList.length) := Lib.hid (by rw [Array.length_toList]; exact info_d32 hx2)
      have hone : xd.all (·.oneCell') = true := by rw [hxd]; exact dA_one _
      have HO := Lib.hid hone
      have HX2 := Lib.hid hx2
      have HZ : Hid ((zeros 32).size = xd.size) := Lib.hid (by rw [hx2]; simp [zeros])
      have HR : Hid (wr.rangeAt b (o + k * 32) xd.toList) := Lib.hid (by rw [hxd]; exact range_of (HB.out.block b hbl) (hrg k hlt))
      have hxa : xd.toList.toArray = xd := by simp
      have ho8 := heap_alloc_new wr (.cells (zeros 32) 34)
      have HO8 := Lib.hid ho8
      obtain ⟨V8, hV8⟩ : ∃ V8, V8 = (wr.alloc (.cells (zeros 32) 34)).setRow wr.heap.size xd := ⟨_, rfl⟩
      have hb8 : Below wr.heap.size wr V8 := by rw [hV8]; exact below_setRow (g := wr.heap.size) ((Below.refl _ _).alloc (Nat.le_refl _) _) (Nat.le_refl _) xd
      have HP8 : Hid (V8.heap[wr.heap.size]? = some (.cells xd 34 (0, 0))) := Lib.hid (by rw [hV8]; exact setRow_heap _ _ _ xd _ _ ho8)
      have hown8 : V8.ownsRow w.heap.size DgT 32 u3 k (flatD ls k) := by
        obtain ⟨a1, a2⟩ := HOW.out
        refine ⟨a1, ?_⟩
        rcases a2 with a2 | ⟨g, cap, cur, hv, hbg, hh, hr⟩
        · exact .inl a2
        · exact .inr ⟨g, cap, cur, hv, hbg, (hb8.block g (blk_lt hh)).trans hh, hr⟩
      have HOW8 := Lib.hid hown8
      have HB8 := Lib.hid (HB.out.trans (hb8.mono HB.out.size))
      have HXD := Lib.hid hxd
      have HV8 := Lib.hid hV8
      clear hrg hxd hx2 hone ho8 hV8 hb8 hown8
      go_wp2_with (first
        | (with_reducible refine wpList_load_mid rfl 34 (.tmp 10) rfl b (o + k * 32) rfl xd.toList _ HR.out Try.underlying34 rfl HIL.out ?_)
        | (with_reducible refine wpList_store_row rfl 34 (.tmp 5) (.tmp 11) rfl _ _ rfl (by simp [Act.eval, Act.put]) 34 _ HO8.out HI.out HZ.out HO.out ?_; rw [← HV8.out])
        | (with_reducible refine wpList_load_row rfl 34 (.tmp 5) rfl _ rfl 34 _ _ _ HP8.out Try.underlying34 rfl HI.out ?_)
        | (with_reducible refine wpList_build1 rfl (.tmp 13) rfl xd HX2.out (by simp [Act.eval, Act.put]) ?_)
        | (at_builtin; refine wp_appD V8 rfl (.tmp 12) (.tmp 14) rfl w.heap.size u3 k (flatD ls k) xd HX2.out HO.out rfl HOW8.out rfl (by omega) HB8.out.size ?_; intro v' w1 hown1 hb1; have HOW1 := Lib.hid hown1; have HB1 := Lib.hid (HB8.out.trans hb1); clear hown1 hb1))
      go_roundg (n - (k + 1))
      case measure => omega
      case rel => exact ⟨k + 1, by go_num, by omega, by rw [flatD_snoc, ← HXD.out]; exact HOW1.out, HB1.out⟩
    · obtain rfl : k = n := by omega
      have HE := Lib.hid (tdig_end HOW.out HB.out HH.out.2)
      go_wp2_with fail
      go_ret
      exact HE.out
theorem few_small (n c : Nat) (A : Option Addr) (w : World) (hn : n ≤ 20) : Calls Try.prog 6 #[.slice A n c] w fun e w' => e = .returned (.slice A n c) ∧ w = w' := by
  have h1 : ¬ (20 : Int) < (n : Int) := by omega
  go_enter Try.func6, Try.ntmps6
  go_wp2
  go_ret
  exact ⟨rfl, rfl⟩
theorem few_big (n c b o : Nat) (w : World) (hn : 20 < n) (hc : n ≤ c) (hcm : c ≤ 9223372036854775807) : Calls Try.prog 6 #[.slice (some ⟨b, o, none⟩) n c] w fun e w' => e = .returned (.slice (some ⟨b, o, none⟩) 20 c) ∧ w = w' := by
  have h1 : (20 : Int) < (n : Int) := by omega
  have h2 : 20 < n := hn
  go_enter Try.func6, Try.ntmps6
  go_wp2
  go_ret
  exact ⟨rfl, rfl⟩
theorem tnew_zero (b c : Nat) (A : Option Addr) (w : World) : Calls Try.prog 7 #[.pointer (some ⟨b, 0, none⟩), .slice A 0 c] w fun e w' => e = .returned (.tuple #[.pointer none, .int .i64 1]) ∧ w = w' := by
  have HF := Lib.hid (fun W => fits_t 0 W)
  have hd : decide (1 ≤ 0 ∧ 0 ≤ 1024) = false := rfl
  rw [hd, show ((0 : Nat) : Int) = 0 from rfl] at HF
  clear hd
  go_enter Try.func7, Try.ntmps7
  go_wp2_with fail
  refine (HF.out _).mono ?_
  rintro e w' ⟨rfl, rfl⟩
  go_wp2_with fail
  exact bodyPost_ret (v := .tuple #[.pointer none, .int .i64 1]) (by simp [results, Try.results7, go_sem]) rfl ⟨rfl, rfl⟩
end
section
open Go.RowKit Go Go.WideShapes Go.ChangeShapes Go.Deep
set_option linter.unusedVariables false
set_option linter.unusedSimpArgs false
section
variable {H : Type} {enc : TypeId × Value → H} {w : World}
theorem cells_u8t : Try.prog.cellsOf 5 = 1 := by kernel_rfl
theorem cells_d32t : Try.prog.cellsOf 34 = 32 := by kernel_rfl
theorem d32_cells {m : Nat} {cs : List Value} {x : DataW H × List MemPlace} (hlen : cs.length = 32) (h : DataW.trod enc Try.prog w 0 (fun _ => true) true m 34 cs = some x) : ∃ l : List Nat, IsDig l ∧ cs = (dA l).toList := by
  obtain ⟨xs, k2, _, _, hl2, hxl, hel⟩ := DataW.trod_array Try.underlying34 h
  have hcell : ∀ i, i < 32 → ∃ q : Nat, q < 256 ∧ cs[i]? = some (.int .u8 (q : Int)) := fun i hi => by
    have h2 := hel i hi
    rw [cells_u8t, Nat.mul_one] at h2
    obtain ⟨y, hy⟩ : ∃ y, xs[i]? = some y := ⟨_, List.getElem?_eq_getElem (by omega)⟩
    rw [hy] at h2
    obtain ⟨z2, hz2, _, hw2⟩ := DataW.trod_int Try.underlying5 h2
    obtain ⟨q, hq, rfl⟩ := nat_u8 hw2
    refine ⟨q, hq, ?_⟩
    have h3 := congrArg (fun l => l[0]?) hz2
    simp only [List.getElem?_cons_zero] at h3
    rw [← h3, List.getElem?_take_of_lt (by omega), List.getElem?_drop]
    rfl
  have hq : ∀ i, ∃ q : Nat, i < 32 → q < 256 ∧ cs[i]? = some (.int .u8 (q : Int)) := fun i => by
    by_cases hi : i < 32
    · obtain ⟨q, h2⟩ := hcell i hi; exact ⟨q, fun _ => h2⟩
    · exact ⟨0, fun h => absurd h hi⟩
  obtain ⟨f, hf⟩ := Classical.skolem.1 hq
  have hg : ∀ j, j < 32 → ((List.range 32).map f).getD j 0 = f j := fun j hj => by rw [List.getD_eq_getElem?_getD, List.getElem?_map, List.getElem?_range hj]; rfl
  refine ⟨(List.range 32).map f, ⟨by simp, fun j => ?_⟩, List.ext_getElem? fun j => ?_⟩
  · by_cases hj : j < 32
    · rw [hg j hj]; exact (hf j hj).1
    · rw [List.getD_eq_getElem?_getD, List.getElem?_eq_none (by simp; omega)]; simp
  · by_cases hj : j < 32
    · rw [(hf j hj).2, Array.getElem?_toList, rowV_at _ hj]
      unfold bF
      rw [hg j hj]
      rfl
    · rw [List.getElem?_eq_none (by omega), List.getElem?_eq_none (by simp [rowV_size]; omega)]
theorem d32s_open {A : Option Addr} {n c : Nat} {d : DataW H} {p : List MemPlace} (h : DataW.Trod enc Try.prog w 0 (fun _ => true) true 22 (.slice A n c) d p) : (∃ ls, DgS w A n ls) ∧ n ≤ c ∧ c ≤ 9223372036854775807 := by
  obtain ⟨fuel, hfu⟩ := h
  rcases open_slice Try.underlying22 hfu with ⟨hcs, _⟩ | ⟨a, len, cap, m, k, D, Pl, hcs, _, hl, hm, hmm, _, hi⟩
  · simp [Value.cells] at hcs
    obtain ⟨rfl, rfl, rfl⟩ := hcs
    exact ⟨⟨fun _ => zero32L, fun h => absurd h (by omega), fun _ => zero32_dig⟩, by omega, by omega⟩
  · simp [Value.cells] at hcs
    obtain ⟨rfl, rfl, rfl⟩ := hcs
    have hm2 : m = c := by simpa using hmm
    refine ⟨?_, hl, by unfold maxLen at hm; omega⟩
    have key : ∀ i, ∃ l : List Nat, IsDig l ∧ (i < n → ∀ j v, (dA l).toList[j]? = some v → w.cell? ((a.add (i * 32)).add j) = some v) := fun i => by
      by_cases hin : i < n
      · obtain ⟨cs', hc, ht'⟩ := hi i (by omega)
        rw [cells_d32t] at hc
        obtain ⟨_, hcl, hat⟩ := World.cells?_some hc
        obtain ⟨l, h1, h2⟩ := d32_cells hcl ht'
        refine ⟨l, h1, fun _ j v hv => ?_⟩
        have hj : j < 32 := by have := (List.getElem?_eq_some_iff.1 hv).1; simpa [rowV_size] using this
        rw [hat j hj, h2]; exact hv
      · exact ⟨zero32L, zero32_dig, fun x => absurd x hin⟩
    obtain ⟨ls, hls⟩ := Classical.skolem.1 key
    refine ⟨ls, fun hn0 => ?_, fun k => (hls k).1⟩
    obtain ⟨b, off, spot⟩ := a
    have hk0 := (hls 0).2 hn0
    have h00 : (dA (ls 0)).toList[0]? = some (bF (ls 0) 0) := by rw [Array.getElem?_toList]; exact rowV_at _ (by omega)
    have hc0 := hk0 0 _ h00
    have hspot : spot = none := by simpa [Addr.add] using World.cell?_spot hc0
    subst hspot
    refine ⟨b, off, rfl, by simpa [Go.WideShapes.add_plain] using block_lt_of_cell hc0, fun i hin j v hv => ?_⟩
    have := (hls i).2 hin j v hv
    rwa [Go.WideShapes.add_plain, Go.WideShapes.add_plain] at this
end
end
section
open Go.RowKit Go
set_option linter.unusedVariables false
set_option linter.unusedSimpArgs false
/-- what Node tells -/
def nodeK (D : Nat) (F : Nat → Nat → List Nat) (d i : Int) : List Nat := if 0 ≤ d ∧ d ≤ (D : Int) ∧ 0 ≤ i ∧ i < (2 : Int) ^ (D - d.toNat) then F d.toNat i.toNat else zero32L
theorem nodeK_in {D d i : Nat} {F : Nat → Nat → List Nat} (hd : d ≤ D) (hi : i < 2 ^ (D - d)) : nodeK D F (d : Int) (i : Int) = F d i := by
  unfold nodeK
  rw [if_pos, Int.toNat_natCast, Int.toNat_natCast]
  refine ⟨by omega, by omega, by omega, ?_⟩
  rw [Int.toNat_natCast]
  exact_mod_cast hi
theorem nodeK_out {D : Nat} {F : Nat → Nat → List Nat} {d i : Int} (h : d < 0 ∨ (D : Int) < d ∨ i < 0 ∨ (2 : Int) ^ (D - d.toNat) ≤ i) : nodeK D F d i = zero32L := by
  unfold nodeK
  rw [if_neg]
  rintro ⟨h1, h2, h3, h4⟩
  omega
set_option maxHeartbeats 1000000 in
set_option maxRecDepth 100000 in
theorem tnode_any (T b n D lb cap : Nat) (d k : Int) (q : Nat → Nat) (F : Nat → Nat → List Nat) (w : World) (h : TrB w T b n D lb cap q F) (hkb : k ≤ 9223372036854775807) :
    Calls Try.prog 14 #[.pointer (some ⟨T, 0, none⟩), .int .i64 d, .int .i64 k] w fun e w' => e = .returned (.agg (dA (nodeK D F d k))) ∧ Below w.heap.size w w' := by
  by_cases hin : 0 ≤ d ∧ d ≤ (D : Int) ∧ 0 ≤ k ∧ k < (2 : Int) ^ (D - d.toNat)
  · obtain ⟨h1, h2, h3, h4⟩ := hin
    obtain ⟨d', rfl⟩ : ∃ d' : Nat, d = (d' : Int) := ⟨d.toNat, by omega⟩
    obtain ⟨i, rfl⟩ : ∃ i : Nat, k = (i : Int) := ⟨k.toNat, by omega⟩
    rw [Int.toNat_natCast] at h4
    have hi : i < 2 ^ (D - d') := by exact_mod_cast h4
    rw [nodeK_in (by omega) hi]
    exact tnode_in T b n D lb cap d' i q F w h (by omega) hi
  · have hz := zero_dig
    have hb1 : Below w.heap.size w (w.alloc (.cells (zeros 32) DgT)) := (Below.refl _ _).alloc (Nat.le_refl _) _
    have h1 := h.next hb1
    have k2 := h1.c2
    have HN := Lib.hid (tnone_any T b n D lb cap q F _ h1)
    have HDP := Lib.hid (tdepth_any T b n D lb cap q F _ h1)
    have hD := h.D5
    have HI := Lib.hid (info_dig (cs := zeros 32) (by simp [zeros]))
    have HO : Hid ((zeros 32).all (·.oneCell') = true) := Lib.hid (by kernel_rfl)
    have HX := Lib.hid (heap_alloc_new w (.cells (zeros 32) DgT))
    have HFX := Lib.hid (setRow_heap _ _ _ (zeros 32) _ _ (heap_alloc_new w (.cells (zeros 32) DgT)))
    have HFB := Lib.hid (below_setRow (g := w.heap.size) hb1 (Nat.le_refl _) (zeros 32))
    rcases (by omega : d < 0 ∨ (0 ≤ d ∧ (D : Int) < d) ∨ (0 ≤ d ∧ d ≤ (D : Int) ∧ k < 0) ∨ (0 ≤ d ∧ d ≤ (D : Int) ∧ 0 ≤ k)) with hc | ⟨hc, hc2⟩ | ⟨hc, hc2, hc3⟩ | ⟨hc, hc2, hc3⟩
    · rw [nodeK_out (.inl hc), zero32_cells]
      have a1 : decide (d < 0) = true := decide_eq_true hc
      clear h h1 hb1 hin
      go_enter Try.func14, Try.ntmps14
      go_wp2_with fail
      refine HN.out.mono ?_
      rintro e w' ⟨rfl, rfl⟩
      go_wp2_with (with_reducible refine wpList_store_row rfl DgT (.tmp 6) (.tmp 35) rfl _ _ rfl rfl DgT _ HX.out HI.out rfl HO.out ?_)
      exact bodyPost_ret (v := .agg (zeros 32)) (results_cell_row rfl _ _ _ DgT _ (0, 0) _ rfl HFX.out Try.underlying37 rfl HI.out) rfl ⟨rfl, HFB.out⟩
    · rw [nodeK_out (.inr (.inl hc2)), zero32_cells]
      have a1 : decide (d < 0) = false := decide_eq_false (by omega)
      have a2 : decide ((D : Int) < d) = true := decide_eq_true hc2
      clear h h1 hb1 hin
      go_enter Try.func14, Try.ntmps14
      go_wp2_with fail
      refine HN.out.mono ?_
      rintro e w' ⟨rfl, rfl⟩
      go_wp2_with fail
      refine HDP.out.mono ?_
      rintro e w' ⟨rfl, rfl⟩
      go_wp2_with (with_reducible refine wpList_store_row rfl DgT (.tmp 6) (.tmp 35) rfl _ _ rfl rfl DgT _ HX.out HI.out rfl HO.out ?_)
      exact bodyPost_ret (v := .agg (zeros 32)) (results_cell_row rfl _ _ _ DgT _ (0, 0) _ rfl HFX.out Try.underlying37 rfl HI.out) rfl ⟨rfl, HFB.out⟩
    · rw [nodeK_out (.inr (.inr (.inl hc3))), zero32_cells]
      have a1 : decide (d < 0) = false := decide_eq_false (by omega)
      have a2 : decide ((D : Int) < d) = false := decide_eq_false (by omega)
      have a3 : decide (k < 0) = true := decide_eq_true hc3
      clear h h1 hb1 hin
      go_enter Try.func14, Try.ntmps14
      go_wp2_with fail
      refine HN.out.mono ?_
      rintro e w' ⟨rfl, rfl⟩
      go_wp2_with fail
      refine HDP.out.mono ?_
      rintro e w' ⟨rfl, rfl⟩
      go_wp2_with (with_reducible refine wpList_store_row rfl DgT (.tmp 6) (.tmp 35) rfl _ _ rfl rfl DgT _ HX.out HI.out rfl HO.out ?_)
      exact bodyPost_ret (v := .agg (zeros 32)) (results_cell_row rfl _ _ _ DgT _ (0, 0) _ rfl HFX.out Try.underlying37 rfl HI.out) rfl ⟨rfl, HFB.out⟩
    · obtain ⟨d', rfl⟩ : ∃ d' : Nat, d = (d' : Int) := ⟨d.toNat, by omega⟩
      have hle : (2 : Int) ^ (D - d') ≤ k := by
        rw [Int.toNat_natCast] at hin
        rcases Int.lt_or_le k ((2 : Int) ^ (D - d')) with c | c
        · exact absurd ⟨hc, hc2, hc3, c⟩ hin
        · exact c
      rw [nodeK_out (.inr (.inr (.inr (by rw [Int.toNat_natCast]; exact hle)))), zero32_cells]
      have kr := h1.row d' (by omega)
      obtain ⟨N, hN⟩ : ∃ N : Nat, N = 2 ^ (D - d') := ⟨_, rfl⟩
      have hNi : ((2 : Int) ^ (D - d')) = (N : Int) := by rw [hN]; push_cast; rfl
      rw [hNi] at hle
      rw [← hN] at kr
      have a1 : decide ((d' : Int) < 0) = false := decide_eq_false (by omega)
      have a2 : decide ((D : Int) < (d' : Int)) = false := decide_eq_false (by omega)
      have a2' : decide (D < d') = false := decide_eq_false (by omega)
      have a3 : decide (k < 0) = false := decide_eq_false (by omega)
      have a4 : decide ((N : Int) ≤ k) = true := decide_eq_true hle
      clear h h1 hb1 hin hN hNi hc hc3
      go_enter Try.func14, Try.ntmps14
      go_wp2_with fail
      refine HN.out.mono ?_
      rintro e w' ⟨rfl, rfl⟩
      go_wp2_with fail
      refine HDP.out.mono ?_
      rintro e w' ⟨rfl, rfl⟩
      go_wp2_with (with_reducible refine wpList_store_row rfl DgT (.tmp 6) (.tmp 35) rfl _ _ rfl rfl DgT _ HX.out HI.out rfl HO.out ?_)
      exact bodyPost_ret (v := .agg (zeros 32)) (results_cell_row rfl _ _ _ DgT _ (0, 0) _ rfl HFX.out Try.underlying37 rfl HI.out) rfl ⟨rfl, HFB.out⟩
end
section
open Go.RowKit Go
set_option linter.unusedVariables false
set_option linter.unusedSimpArgs false
set_option maxHeartbeats 8000000 in
set_option maxRecDepth 100000 in
theorem treeNodes_small (n0 n c : Nat) (A0 A : Option Addr) (ls : Nat → List Nat) (lv i : Int) (w : World) (hds : DgS w A n ls) (hn : n ≤ 20) (hc : n ≤ c) (hib : i ≤ 9223372036854775807)
    (hfew : Calls Try.prog 6 #[.slice A0 n0 c] w fun e w' => e = .returned (.slice A n c) ∧ w = w') :
    Calls Try.prog 3 #[.slice A0 n0 c, .int .i64 lv, .int .i64 i] w fun e w' => e = .returned (.bool true) ∧ Below w.heap.size w w' := by
  have HDS := Lib.hid hds
  have HFEW := Lib.hid hfew
  have hz := zero32
  clear hds hfew
  go_enter Try.func3, Try.ntmps3
  go_wp2_with fail
  refine HFEW.out.mono ?_
  rintro e w' ⟨rfl, rfl⟩
  go_wp2_with fail
  refine (book12_any _).mono ?_
  rintro e w1 ⟨b, g, S, rfl, hbk, hS, hb1⟩
  have HBK := Lib.hid hbk
  have HS := Lib.hid hS
  have HB1 := Lib.hid hb1
  clear hbk hS hb1
  go_wp2_with fail
  refine (digests_any n c A ls w1 (HDS.out.below HB1.out) hn).mono ?_
  rintro e w2 ⟨A2, c2, rfl, hc2, hd2, hb2⟩
  have HD2 := Lib.hid hd2
  have HB2 : Hid (Below w.heap.size w w2) := Lib.hid (HB1.out.trans (hb2.mono HB1.out.size))
  have HBK2 := Lib.hid (HBK.out.below hb2)
  clear hd2 hb2
  by_cases hn0 : n = 0
  · subst hn0

    go_wp2_with fail
    refine (tnew_zero b c2 A2 _).mono ?_
    rintro e w3 ⟨rfl, rfl⟩
    go_wp2_with fail
    refine (awake12_any _).mono ?_
    rintro e w4 ⟨rfl, hb4⟩
    have HB4 := Lib.hid (HB2.out.trans (hb4.mono HB2.out.size))
    clear hb4
    go_wp2
    go_ret
    exact ⟨rfl, HB4.out⟩
  · have hn1 : 1 ≤ n := by omega
    have hnz : ((n : Int) == 0) = false := by rw [beq_eq_false_iff_ne]; omega
    have HNEW := Lib.hid (tnew_any b g n c2 A2 ls S [] [] w2 HBK2.out HD2.out hn1 hn hc2)
    go_wp2_with fail
    refine HNEW.out.mono ?_
    rintro e w3 ⟨T, lb, cap, q, F, S', Tx, sh, rfl, htr, hrr, hf0, hbk6, hs6, hap6, ht6⟩
    have HRA := Lib.hid (fun d j (h1 : (j + 1) * 2 ^ d ≤ 1024) (h2 : d ≤ 10) W (hW : Below w.heap.size w W) => rat_any n c A ls hn hc d j h1 h2 W (HDS.out.below hW))
    have HRT := Lib.hid (fun d j => right_tree (D := dpt n) (F := F) (f := mixX n ls) hrr hf0 d j)
    have HRD := Lib.hid (fun W => rdepth_any n hn W)
    have HTRX := Lib.hid htr
    have HBKX := Lib.hid hbk6
    have HDL := Lib.hid (dpt_le n hn)
    have HBW3 : Hid (Below w.heap.size w w3) := Lib.hid (HB2.out.trans (ht6.below HB2.out.size (fun j hj => HS.out j hj)))
    obtain ⟨xk, hxk⟩ : ∃ z, z = dA (nodeK (dpt n) F lv i) := ⟨_, rfl⟩
    have hx2 : xk.size = 32 := by rw [hxk, rowV_size]
    have hld : IsDig (nodeK (dpt n) F lv i) := by
      unfold nodeK
      split
      · exact htr.dig _ _
      · exact zero32_dig
    have HXK := Lib.hid hxk
    have HIK := Lib.hid (info_d32 hx2)
    have HOK : Hid (xk.all (·.oneCell') = true) := Lib.hid (by rw [hxk]; exact dA_one _)
    have HZK : Hid ((zeros 32).size = xk.size) := Lib.hid (by rw [hx2]; simp [zeros])
    have HEK : Hid (∀ W, (binOp .eql 37 (.agg xk) (.agg xk)).run Try.prog W = .ok (.bool true) W) := Lib.hid (fun W => by
      have h := equal_row 37 32 Try.underlying37 (nodeK (dpt n) F lv i) (nodeK (dpt n) F lv i) hld.1 hld.1 W
      rw [hxk]
      simp [binOp, Op.equal, Op.maxDepth, h, Result.andThen])
    generalize dpt n = D at *
    have hD5 := HDL.out
    clear htr hrr hf0 hbk6 hs6 hap6 ht6 hxk hx2 hld HNEW
    obtain ⟨V, hV⟩ : ∃ V, V = w3.alloc (.cells (zeros 32) 34) := ⟨_, rfl⟩
    have hbV : Below w3.heap.size w3 V := by rw [hV]; exact (Below.refl _ _).alloc (Nat.le_refl _) _
    have HPZ : Hid (V.heap[w3.heap.size]? = some (.cells (zeros 32) 34 (0, 0))) := Lib.hid (by rw [hV]; exact heap_alloc_new w3 _)
    have HTRV := Lib.hid (HTRX.out.next hbV)
    have HBWV : Hid (Below w.heap.size w V) := Lib.hid (HBW3.out.trans (hbV.mono HBW3.out.size))
    have HV := Lib.hid hV
    clear hbV hV
    go_wp2_with fail
    refine (HRD.out _).mono ?_
    rintro e w' ⟨rfl, rfl⟩
    go_wp2_with fail
    rw [← HV.out]
    generalize hp7 : w3.heap.size = p7 at *
    go_loopw [11, 12] (fun wv kv W => ∃ k P : Nat, kv = .int .i64 (k : Int) ∧ wv = .int .i64 (P : Int) ∧ P = 2 ^ (D - k) ∧ k ≤ D ∧ (k = D ∨ lv ≤ (k : Int)) ∧ W = V) (fun _ kv _ => (intOf kv).toNat)
    case atStart => exact ⟨D, 1, rfl, rfl, by simp, by omega, .inl rfl, rfl⟩
    case round =>
      obtain ⟨k, P, rfl, rfl, hP, hkD, hkl, rfl⟩ := hrel
      have hP32 : P ≤ 32 := by rw [hP]; exact Nat.le_trans (Nat.pow_le_pow_right (by omega) (show D - k ≤ 5 by omega)) (by decide)
      by_cases hgo : lv < (k : Int) ∧ 0 < k
      · have g1 : decide (lv < (k : Int)) = true := decide_eq_true hgo.1
        have g2 : decide ((0 : Int) < (k : Int)) = true := decide_eq_true (by omega)
        have g2' : decide (0 < k) = true := decide_eq_true hgo.2
        have HN : Hid (2 * P = 2 ^ (D - (k - 1))) := Lib.hid (by rw [hP, show D - (k - 1) = (D - k) + 1 by omega, Nat.pow_succ]; omega)
        clear hP
        go_wp2_with fail
        go_roundw
        case rel => exact ⟨k - 1, 2 * P, by rw [show ((k - 1 : Nat) : Int) = (k : Int) - 1 by omega], by rw [Int.natCast_mul]; rfl, HN.out, by omega, .inr (by omega), by first | rfl | trivial⟩
        case measure => simp [intOf]; omega
      · have HP := Lib.hid hP
        have hstop : (decide (lv < (k : Int)) = false) ∨ (decide (lv < (k : Int)) = true ∧ k = 0) := by
          by_cases c : lv < (k : Int)
          · exact .inr ⟨decide_eq_true c, by omega⟩
          · exact .inl (decide_eq_false c)
        clear hP
        have HSTOP := Lib.hid hstop
        by_cases hin : 0 ≤ lv ∧ lv ≤ (D : Int) ∧ 0 ≤ i ∧ i < (2 : Int) ^ (D - lv.toNat)
        · obtain ⟨i1, i2, i3, i4⟩ := hin
          have hlk : lv = (k : Int) := by
            rcases hstop with h | ⟨h, h0⟩
            · have := of_decide_eq_false h; omega
            · have := of_decide_eq_true h; omega
          subst hlk
          obtain ⟨j, rfl⟩ : ∃ j : Nat, i = (j : Int) := ⟨i.toNat, by omega⟩
          rw [Int.toNat_natCast] at i4
          have hj : j < 2 ^ (D - k) := by exact_mod_cast i4
          have hjP : j < P := by rw [HP.out]; exact hj
          have hxk : xk = dA (treeAt (mixX n ls) k j) := by rw [HXK.out, nodeK_in hkD hj, HRT.out k j hkD hj]
          have hbnd : (j + 1) * 2 ^ k ≤ 1024 := by
            have h1 : (j + 1) * 2 ^ k ≤ 2 ^ (D - k) * 2 ^ k := Nat.mul_le_mul_right _ hj
            rw [← Nat.pow_add, show D - k + k = D by omega] at h1
            exact Nat.le_trans h1 (Nat.le_trans (Nat.pow_le_pow_right (by omega) (show D ≤ 10 by omega)) (by decide))
          have HCALL := Lib.hid (HRA.out k j hbnd (by omega) wr HBWV.out)
          have HXT := Lib.hid hxk
          have b0 : decide ((k : Int) < (k : Int)) = false := decide_eq_false (by omega)
          have b0' : decide (k < k) = false := decide_eq_false (by omega)
          have b1 : decide ((0 : Int) ≤ (k : Int)) = true := decide_eq_true (by omega)
          have b2 : decide ((k : Int) ≤ (D : Int)) = true := decide_eq_true (by omega)
          have b2' : decide (k ≤ D) = true := decide_eq_true hkD
          have b3 : decide ((0 : Int) ≤ (j : Int)) = true := decide_eq_true (by omega)
          have b4 : decide ((j : Int) < (P : Int)) = true := decide_eq_true (by omega)
          have b4' : decide (j < P) = true := decide_eq_true hjP
          clear i1 i2 i3 i4 hj hxk hbnd hstop hkl hgo hjP
          go_wp2_with fail
          refine HCALL.out.mono ?_
          rintro e w8 ⟨rfl, hb8⟩
          rw [← HXT.out]
          have HPZ8 : Hid (w8.heap[p7]? = some (.cells (zeros 32) 34 (0, 0))) := Lib.hid ((hb8.block _ (blk_lt HPZ.out)).trans HPZ.out)
          obtain ⟨VV, hVV⟩ : ∃ VV, VV = w8.setRow p7 xk := ⟨_, rfl⟩
          have HPX : Hid (VV.heap[p7]? = some (.cells xk 34 (0, 0))) := Lib.hid (by rw [hVV]; exact setRow_heap _ _ _ xk _ _ HPZ8.out)
          have HTR8 := HTRV.out.next hb8
          have hp7n : ∀ j, trS T lb D q j → j ≠ p7 := fun j hj => by have := HTRX.out.lt hj; omega
          have HTRX2 := Lib.hid (HTR8.keep (S := fun j => j = p7) (show Turns (fun j => j = p7) w8 VV by rw [hVV]; exact ⟨rfl, rfl, rfl, by rw [size_setRow]; exact Nat.le_refl _, fun j _ hn => setRow_other _ _ _ _ hn⟩) hp7n)
          have HBX2 : Hid (Below w.heap.size w VV) := Lib.hid (by rw [hVV]; exact below_setRow (HBWV.out.trans (hb8.mono HBWV.out.size)) (by have := HBW3.out.size; omega) xk)
          have HVV := Lib.hid hVV
          clear hb8 hVV HTR8 hp7n
          go_wp2_with (with_reducible refine wpList_store_row rfl 34 (.tmp 10) (.tmp 64) rfl _ _ rfl rfl 34 _ HPZ8.out HIK.out HZK.out HOK.out ?_)
          rw [← HVV.out]
          have HP7 : Hid (VV.drew.heap[p7]? = some (.cells xk 34 (0, 0))) := Lib.hid HPX.out
          have HTRD := Lib.hid (HTRX2.out.next (Below.refl _ _).drew)
          have HBWD : Hid (Below w.heap.size w VV.drew) := Lib.hid HBX2.out.drew
          refine wp_region_F (S := (fun W : World => W.heap[p7]? = some (.cells xk 34 (0, 0)))) [] (by kernel_rfl) (HP7.out) (fun hHeld => ?_)
          refine wpAnyF_take (i := 0) (oi := _) (v := ?_) rfl (by kernel_rfl) (by kernel_rfl) (by kernel_rfl) (by kernel_rfl) (fun _ _ _ h => h) (Or.inl ⟨by rfl, ?_⟩) (by assumption) ?_
          rotate_left 1
          · intro w hSw
            (try dsimp only at hSw)
            (first | (go_simp; done) | (go_simp; with_reducible rfl))
          (try simp only [Act.put, List.getElem_toArray, List.getElem_cons_succ, List.getElem_cons_zero, List.setIfInBounds_toArray, List.set_cons_zero, List.set_cons_succ])
          refine wpAnyF_take (i := 2) (oi := _) (v := ?_) rfl (by kernel_rfl) (by kernel_rfl) (by kernel_rfl) (by kernel_rfl) (fun _ _ _ h => h) (Or.inl ⟨by rfl, ?_⟩) (by assumption) ?_
          rotate_left 1
          · intro w hSw
            (try dsimp only at hSw)
            (first | (go_simp; done) | (go_simp; with_reducible rfl))
          (try simp only [Act.put, List.getElem_toArray, List.getElem_cons_succ, List.getElem_cons_zero, List.setIfInBounds_toArray, List.set_cons_zero, List.set_cons_succ])
          refine wpAnyF_ready (rs := [1]) (by kernel_rfl) (by simp) ?_
          refine AllReadyF.cons (o := _) rfl (fun K hK => ?_) AllReadyF.nil
          go_simp
          refine (tdepth_any T b n D lb cap q F _ HTRD.out).mono ?_
          rintro e w10 ⟨rfl, rfl⟩
          refine hK.out _ _ (hHeld) (fun hHeld1 => ?_)
          clear hK K
          (try simp only [Act.put, List.getElem_toArray, List.getElem_cons_succ, List.getElem_cons_zero, List.setIfInBounds_toArray, List.set_cons_zero, List.set_cons_succ])
          refine wpAnyF_take (i := 3) (oi := _) (v := ?_) rfl (by kernel_rfl) (by kernel_rfl) (by kernel_rfl) (by kernel_rfl) (fun _ _ _ h => h) (Or.inl ⟨by rfl, ?_⟩) (by assumption) ?_
          rotate_left 1
          · intro w hSw
            (try dsimp only at hSw)
            (first | (go_simp; done) | (go_simp; with_reducible rfl))
          (try simp only [Act.put, List.getElem_toArray, List.getElem_cons_succ, List.getElem_cons_zero, List.setIfInBounds_toArray, List.set_cons_zero, List.set_cons_succ])
          refine wpAnyF_take (i := 4) (oi := _) (v := ?_) rfl (by kernel_rfl) (by kernel_rfl) (by kernel_rfl) (by kernel_rfl) (fun _ _ _ h => h) (Or.inl ⟨by rfl, ?_⟩) (by assumption) ?_
          rotate_left 1
          · intro w hSw
            (try dsimp only at hSw)
            (first | (go_simp; done) | (go_simp; with_reducible rfl))
          (try simp only [Act.put, List.getElem_toArray, List.getElem_cons_succ, List.getElem_cons_zero, List.setIfInBounds_toArray, List.set_cons_zero, List.set_cons_succ])
          refine wpAnyF_take (i := 5) (oi := _) (v := ?_) rfl (by kernel_rfl) (by kernel_rfl) (by kernel_rfl) (by kernel_rfl) (fun _ _ _ h => h) (Or.inl ⟨by rfl, ?_⟩) (by assumption) ?_
          rotate_left 1
          · intro w hSw
            (try dsimp only at hSw)
            (first | (go_simp; done) | (go_simp; with_reducible rfl))
          (try simp only [Act.put, List.getElem_toArray, List.getElem_cons_succ, List.getElem_cons_zero, List.setIfInBounds_toArray, List.set_cons_zero, List.set_cons_succ])
          refine wpAnyF_take (i := 6) (oi := _) (v := ?_) rfl (by kernel_rfl) (by kernel_rfl) (by kernel_rfl) (by kernel_rfl) (fun _ _ _ h => h) (Or.inl ⟨by rfl, ?_⟩) (by assumption) ?_
          rotate_left 1
          · intro w hSw
            (try dsimp only at hSw)
            (first | (go_simp; done) | (go_simp; with_reducible rfl))
          (try simp only [Act.put, List.getElem_toArray, List.getElem_cons_succ, List.getElem_cons_zero, List.setIfInBounds_toArray, List.set_cons_zero, List.set_cons_succ])
          refine wpAnyF_take (i := 7) (oi := _) (v := ?_) rfl (by kernel_rfl) (by kernel_rfl) (by kernel_rfl) (by kernel_rfl) (fun _ _ _ h => h) (Or.inl ⟨by rfl, ?_⟩) (by assumption) ?_
          rotate_left 1
          · intro w hSw
            (try dsimp only at hSw)
            (first | (go_simp; done) | (go_simp; with_reducible rfl))
          (try simp only [Act.put, List.getElem_toArray, List.getElem_cons_succ, List.getElem_cons_zero, List.setIfInBounds_toArray, List.set_cons_zero, List.set_cons_succ])
          refine wpAnyF_take (i := 9) (oi := _) (v := _) rfl (by kernel_rfl) (by kernel_rfl) (by kernel_rfl) (by kernel_rfl) (fun _ _ _ h => h) (yields_rowP (by with_unfolding_all rfl) 34 (.tmp 10) rfl p7 0 rfl xk _ (fun W h j v hv => by rw [Nat.zero_add, blk_cell h j]; simpa using hv) Try.underlying34 rfl HIK.out) (by assumption) ?_
          (try simp only [Act.put, List.getElem_toArray, List.getElem_cons_succ, List.getElem_cons_zero, List.setIfInBounds_toArray, List.set_cons_zero, List.set_cons_succ])
          refine wpAnyF_ready (rs := [8]) (by kernel_rfl) (by simp) ?_
          refine AllReadyF.cons (o := _) rfl (fun K hK => ?_) AllReadyF.nil
          go_simp
          refine (tnode_any T b n D lb cap (k : Int) (j : Int) q F _ HTRD.out hib).mono ?_
          rintro e w11 ⟨rfl, hb11⟩
          rw [← HXK.out]
          have HB11 : Hid (Below w.heap.size w w11) := Lib.hid (HBWD.out.trans (hb11.mono HBWD.out.size))
          have HH11 := Lib.hid ((hb11.block _ (blk_lt hHeld1)).trans hHeld1)
          clear hb11
          refine hK.out _ _ (HH11.out) (fun hHeld8 => ?_)
          clear hK K
          (try simp only [Act.put, List.getElem_toArray, List.getElem_cons_succ, List.getElem_cons_zero, List.setIfInBounds_toArray, List.set_cons_zero, List.set_cons_succ])
          refine wpAnyF_take (i := 10) (oi := _) (v := _) rfl (by kernel_rfl) (by kernel_rfl) (by kernel_rfl) (by kernel_rfl) (fun _ _ _ h => h) (.inl ⟨by with_unfolding_all rfl, fun w h => exec_bin .eql 37 37 (.tmp 73) (.tmp 74) rfl (.agg xk) (.agg xk) (.bool true) rfl rfl (bk_guard _ _ _ _ _) (HEK.out w)⟩) (by assumption) ?_
          (try simp only [Act.put, List.getElem_toArray, List.getElem_cons_succ, List.getElem_cons_zero, List.setIfInBounds_toArray, List.set_cons_zero, List.set_cons_succ])
          refine wpAnyF_take (i := 11) (oi := _) (v := ?_) rfl (by kernel_rfl) (by kernel_rfl) (by kernel_rfl) (by kernel_rfl) (fun _ _ _ h => h) (Or.inl ⟨by rfl, ?_⟩) (by assumption) ?_
          rotate_left 1
          · intro w hSw
            (try dsimp only at hSw)
            (first | (go_simp; done) | (go_simp; with_reducible rfl))
          (try simp only [Act.put, List.getElem_toArray, List.getElem_cons_succ, List.getElem_cons_zero, List.setIfInBounds_toArray, List.set_cons_zero, List.set_cons_succ])
          refine wpAnyF_take (i := 12) (oi := _) (v := ?_) rfl (by kernel_rfl) (by kernel_rfl) (by kernel_rfl) (by kernel_rfl) (fun _ _ _ h => h) (Or.inl ⟨by rfl, ?_⟩) (by assumption) ?_
          rotate_left 1
          · intro w hSw
            (try dsimp only at hSw)
            (first | (go_simp; done) | (go_simp; with_reducible rfl))
          (try simp only [Act.put, List.getElem_toArray, List.getElem_cons_succ, List.getElem_cons_zero, List.setIfInBounds_toArray, List.set_cons_zero, List.set_cons_succ])
          refine wpAnyF_ready (rs := [13]) (by kernel_rfl) (by simp) ?_
          refine AllReadyF.cons (o := _) rfl (fun K hK => ?_) AllReadyF.nil
          go_simp
          refine (awake12_any _).mono ?_
          rintro e w12 ⟨rfl, hb12⟩
          have HB12 : Hid (Below w.heap.size w w12) := Lib.hid (HB11.out.trans (hb12.mono HB11.out.size))
          have HH12 := Lib.hid ((hb12.block _ (blk_lt hHeld8)).trans hHeld8)
          clear hb12
          refine hK.out _ _ (HH12.out) (fun hHeld13 => ?_)
          clear hK K
          (try simp only [Act.put, List.getElem_toArray, List.getElem_cons_succ, List.getElem_cons_zero, List.setIfInBounds_toArray, List.set_cons_zero, List.set_cons_succ])
          refine wpAnyF_take (i := 14) (oi := _) (v := ?_) rfl (by kernel_rfl) (by kernel_rfl) (by kernel_rfl) (by kernel_rfl) (fun _ _ _ h => h) (Or.inl ⟨by rfl, ?_⟩) (by assumption) ?_
          rotate_left 1
          · intro w hSw
            (try dsimp only at hSw)
            (first | (go_simp; done) | (go_simp; with_reducible rfl))
          (try simp only [Act.put, List.getElem_toArray, List.getElem_cons_succ, List.getElem_cons_zero, List.setIfInBounds_toArray, List.set_cons_zero, List.set_cons_succ])
          refine wpAnyF_take (i := 15) (oi := _) (v := ?_) rfl (by kernel_rfl) (by kernel_rfl) (by kernel_rfl) (by kernel_rfl) (fun _ _ _ h => h) (Or.inl ⟨by rfl, ?_⟩) (by assumption) ?_
          rotate_left 1
          · intro w hSw
            (try dsimp only at hSw)
            (first | (go_simp; done) | (go_simp; with_reducible rfl))
          (try simp only [Act.put, List.getElem_toArray, List.getElem_cons_succ, List.getElem_cons_zero, List.setIfInBounds_toArray, List.set_cons_zero, List.set_cons_succ])
          refine wpAnyF_done (by kernel_rfl) ?_ _
          clear hHeld hHeld1 hHeld8 hHeld13
          go_wp2_with fail
          go_ret
          exact ⟨rfl, HB12.out⟩
        · have hxz : xk = zeros 32 := by
            rw [HXK.out, ← zero32_cells]
            unfold nodeK
            rw [if_neg hin]
          have HXZ := Lib.hid hxz
          have HPX : Hid (wr.heap[p7]? = some (.cells xk 34 (0, 0))) := Lib.hid (by rw [hxz]; exact HPZ.out)
          have HTRX2 := HTRV
          have HBX2 := HBWV
          have hout : (¬ 0 ≤ lv) ∨ (0 ≤ lv ∧ ¬ lv ≤ (D : Int)) ∨ (0 ≤ lv ∧ lv ≤ (D : Int) ∧ ¬ 0 ≤ i) ∨ (0 ≤ lv ∧ lv ≤ (D : Int) ∧ 0 ≤ i ∧ ¬ i < (P : Int)) := by
            by_cases c1 : 0 ≤ lv
            · by_cases c2 : lv ≤ (D : Int)
              · by_cases c3 : 0 ≤ i
                · refine .inr (.inr (.inr ⟨c1, c2, c3, (fun c4 => hin ⟨c1, c2, c3, ?_⟩)⟩))
                  have hlk : lv.toNat = k := by
                    rcases hstop with h | ⟨h, h0⟩
                    · have := of_decide_eq_false h; omega
                    · have := of_decide_eq_true h; omega
                  rw [hlk, show ((2 : Int) ^ (D - k)) = ((2 ^ (D - k) : Nat) : Int) by push_cast; rfl, ← HP.out]
                  exact c4
                · exact .inr (.inr (.inl ⟨c1, c2, c3⟩))
              · exact .inr (.inl ⟨c1, c2⟩)
            · exact .inl c1
          have hst2 : (¬ lv < (k : Int)) ∨ (lv < 0 ∧ k = 0) := by
            rcases hstop with h | ⟨h, h0⟩
            · exact .inl (of_decide_eq_false h)
            · exact .inr ⟨by have := of_decide_eq_true h; omega, h0⟩
          clear hin hkl hgo hxz hstop HSTOP
          rcases hst2 with s1 | ⟨s1, rfl⟩
          rotate_left 1
          · rcases hout with o1 | ⟨o1, _⟩ | ⟨o1, _⟩ | ⟨o1, _⟩
            rotate_left 1
            · omega
            · omega
            · omega
            have s2 : lv < ((0 : Nat) : Int) := s1
            go_wp2_with fail
            have HP7 : Hid (wr.drew.heap[p7]? = some (.cells xk 34 (0, 0))) := Lib.hid HPX.out
            have HTRD := Lib.hid (HTRX2.out.next (Below.refl _ _).drew)
            have HBWD : Hid (Below w.heap.size w wr.drew) := Lib.hid HBX2.out.drew
            refine wp_region_F (S := (fun W : World => W.heap[p7]? = some (.cells xk 34 (0, 0)))) [] (by kernel_rfl) (HP7.out) (fun hHeld => ?_)
            refine wpAnyF_take (i := 0) (oi := _) (v := ?_) rfl (by kernel_rfl) (by kernel_rfl) (by kernel_rfl) (by kernel_rfl) (fun _ _ _ h => h) (Or.inl ⟨by rfl, ?_⟩) (by assumption) ?_
            rotate_left 1
            · intro w hSw
              (try dsimp only at hSw)
              (first | (go_simp; done) | (go_simp; with_reducible rfl))
            (try simp only [Act.put, List.getElem_toArray, List.getElem_cons_succ, List.getElem_cons_zero, List.setIfInBounds_toArray, List.set_cons_zero, List.set_cons_succ])
            refine wpAnyF_take (i := 2) (oi := _) (v := ?_) rfl (by kernel_rfl) (by kernel_rfl) (by kernel_rfl) (by kernel_rfl) (fun _ _ _ h => h) (Or.inl ⟨by rfl, ?_⟩) (by assumption) ?_
            rotate_left 1
            · intro w hSw
              (try dsimp only at hSw)
              (first | (go_simp; done) | (go_simp; with_reducible rfl))
            (try simp only [Act.put, List.getElem_toArray, List.getElem_cons_succ, List.getElem_cons_zero, List.setIfInBounds_toArray, List.set_cons_zero, List.set_cons_succ])
            refine wpAnyF_ready (rs := [1]) (by kernel_rfl) (by simp) ?_
            refine AllReadyF.cons (o := _) rfl (fun K hK => ?_) AllReadyF.nil
            go_simp
            refine (tdepth_any T b n D lb cap q F _ HTRD.out).mono ?_
            rintro e w10 ⟨rfl, rfl⟩
            refine hK.out _ _ (hHeld) (fun hHeld1 => ?_)
            clear hK K
            (try simp only [Act.put, List.getElem_toArray, List.getElem_cons_succ, List.getElem_cons_zero, List.setIfInBounds_toArray, List.set_cons_zero, List.set_cons_succ])
            refine wpAnyF_take (i := 3) (oi := _) (v := ?_) rfl (by kernel_rfl) (by kernel_rfl) (by kernel_rfl) (by kernel_rfl) (fun _ _ _ h => h) (Or.inl ⟨by rfl, ?_⟩) (by assumption) ?_
            rotate_left 1
            · intro w hSw
              (try dsimp only at hSw)
              (first | (go_simp; done) | (go_simp; with_reducible rfl))
            (try simp only [Act.put, List.getElem_toArray, List.getElem_cons_succ, List.getElem_cons_zero, List.setIfInBounds_toArray, List.set_cons_zero, List.set_cons_succ])
            refine wpAnyF_take (i := 4) (oi := _) (v := ?_) rfl (by kernel_rfl) (by kernel_rfl) (by kernel_rfl) (by kernel_rfl) (fun _ _ _ h => h) (Or.inl ⟨by rfl, ?_⟩) (by assumption) ?_
            rotate_left 1
            · intro w hSw
              (try dsimp only at hSw)
              (first | (go_simp; done) | (go_simp; with_reducible rfl))
            (try simp only [Act.put, List.getElem_toArray, List.getElem_cons_succ, List.getElem_cons_zero, List.setIfInBounds_toArray, List.set_cons_zero, List.set_cons_succ])
            refine wpAnyF_take (i := 5) (oi := _) (v := ?_) rfl (by kernel_rfl) (by kernel_rfl) (by kernel_rfl) (by kernel_rfl) (fun _ _ _ h => h) (Or.inl ⟨by rfl, ?_⟩) (by assumption) ?_
            rotate_left 1
            · intro w hSw
              (try dsimp only at hSw)
              (first | (go_simp; done) | (go_simp; with_reducible rfl))
            (try simp only [Act.put, List.getElem_toArray, List.getElem_cons_succ, List.getElem_cons_zero, List.setIfInBounds_toArray, List.set_cons_zero, List.set_cons_succ])
            refine wpAnyF_take (i := 6) (oi := _) (v := ?_) rfl (by kernel_rfl) (by kernel_rfl) (by kernel_rfl) (by kernel_rfl) (fun _ _ _ h => h) (Or.inl ⟨by rfl, ?_⟩) (by assumption) ?_
            rotate_left 1
            · intro w hSw
              (try dsimp only at hSw)
              (first | (go_simp; done) | (go_simp; with_reducible rfl))
            (try simp only [Act.put, List.getElem_toArray, List.getElem_cons_succ, List.getElem_cons_zero, List.setIfInBounds_toArray, List.set_cons_zero, List.set_cons_succ])
            refine wpAnyF_take (i := 7) (oi := _) (v := ?_) rfl (by kernel_rfl) (by kernel_rfl) (by kernel_rfl) (by kernel_rfl) (fun _ _ _ h => h) (Or.inl ⟨by rfl, ?_⟩) (by assumption) ?_
            rotate_left 1
            · intro w hSw
              (try dsimp only at hSw)
              (first | (go_simp; done) | (go_simp; with_reducible rfl))
            (try simp only [Act.put, List.getElem_toArray, List.getElem_cons_succ, List.getElem_cons_zero, List.setIfInBounds_toArray, List.set_cons_zero, List.set_cons_succ])
            refine wpAnyF_take (i := 9) (oi := _) (v := _) rfl (by kernel_rfl) (by kernel_rfl) (by kernel_rfl) (by kernel_rfl) (fun _ _ _ h => h) (yields_rowP (by with_unfolding_all rfl) 34 (.tmp 10) rfl p7 0 rfl xk _ (fun W h j v hv => by rw [Nat.zero_add, blk_cell h j]; simpa using hv) Try.underlying34 rfl HIK.out) (by assumption) ?_
            (try simp only [Act.put, List.getElem_toArray, List.getElem_cons_succ, List.getElem_cons_zero, List.setIfInBounds_toArray, List.set_cons_zero, List.set_cons_succ])
            refine wpAnyF_ready (rs := [8]) (by kernel_rfl) (by simp) ?_
            refine AllReadyF.cons (o := _) rfl (fun K hK => ?_) AllReadyF.nil
            go_simp
            refine (tnode_any T b n D lb cap lv i q F _ HTRD.out hib).mono ?_
            rintro e w11 ⟨rfl, hb11⟩
            rw [← HXK.out]
            have HB11 : Hid (Below w.heap.size w w11) := Lib.hid (HBWD.out.trans (hb11.mono HBWD.out.size))
            have HH11 := Lib.hid ((hb11.block _ (blk_lt hHeld1)).trans hHeld1)
            clear hb11
            refine hK.out _ _ (HH11.out) (fun hHeld8 => ?_)
            clear hK K
            (try simp only [Act.put, List.getElem_toArray, List.getElem_cons_succ, List.getElem_cons_zero, List.setIfInBounds_toArray, List.set_cons_zero, List.set_cons_succ])
            refine wpAnyF_take (i := 10) (oi := _) (v := _) rfl (by kernel_rfl) (by kernel_rfl) (by kernel_rfl) (by kernel_rfl) (fun _ _ _ h => h) (.inl ⟨by with_unfolding_all rfl, fun w h => exec_bin .eql 37 37 (.tmp 73) (.tmp 74) rfl (.agg xk) (.agg xk) (.bool true) rfl rfl (bk_guard _ _ _ _ _) (HEK.out w)⟩) (by assumption) ?_
            (try simp only [Act.put, List.getElem_toArray, List.getElem_cons_succ, List.getElem_cons_zero, List.setIfInBounds_toArray, List.set_cons_zero, List.set_cons_succ])
            refine wpAnyF_take (i := 11) (oi := _) (v := ?_) rfl (by kernel_rfl) (by kernel_rfl) (by kernel_rfl) (by kernel_rfl) (fun _ _ _ h => h) (Or.inl ⟨by rfl, ?_⟩) (by assumption) ?_
            rotate_left 1
            · intro w hSw
              (try dsimp only at hSw)
              (first | (go_simp; done) | (go_simp; with_reducible rfl))
            (try simp only [Act.put, List.getElem_toArray, List.getElem_cons_succ, List.getElem_cons_zero, List.setIfInBounds_toArray, List.set_cons_zero, List.set_cons_succ])
            refine wpAnyF_take (i := 12) (oi := _) (v := ?_) rfl (by kernel_rfl) (by kernel_rfl) (by kernel_rfl) (by kernel_rfl) (fun _ _ _ h => h) (Or.inl ⟨by rfl, ?_⟩) (by assumption) ?_
            rotate_left 1
            · intro w hSw
              (try dsimp only at hSw)
              (first | (go_simp; done) | (go_simp; with_reducible rfl))
            (try simp only [Act.put, List.getElem_toArray, List.getElem_cons_succ, List.getElem_cons_zero, List.setIfInBounds_toArray, List.set_cons_zero, List.set_cons_succ])
            refine wpAnyF_ready (rs := [13]) (by kernel_rfl) (by simp) ?_
            refine AllReadyF.cons (o := _) rfl (fun K hK => ?_) AllReadyF.nil
            go_simp
            refine (awake12_any _).mono ?_
            rintro e w12 ⟨rfl, hb12⟩
            have HB12 : Hid (Below w.heap.size w w12) := Lib.hid (HB11.out.trans (hb12.mono HB11.out.size))
            have HH12 := Lib.hid ((hb12.block _ (blk_lt hHeld8)).trans hHeld8)
            clear hb12
            refine hK.out _ _ (HH12.out) (fun hHeld13 => ?_)
            clear hK K
            (try simp only [Act.put, List.getElem_toArray, List.getElem_cons_succ, List.getElem_cons_zero, List.setIfInBounds_toArray, List.set_cons_zero, List.set_cons_succ])
            refine wpAnyF_take (i := 14) (oi := _) (v := ?_) rfl (by kernel_rfl) (by kernel_rfl) (by kernel_rfl) (by kernel_rfl) (fun _ _ _ h => h) (Or.inl ⟨by rfl, ?_⟩) (by assumption) ?_
            rotate_left 1
            · intro w hSw
              (try dsimp only at hSw)
              (first | (go_simp; done) | (go_simp; with_reducible rfl))
            (try simp only [Act.put, List.getElem_toArray, List.getElem_cons_succ, List.getElem_cons_zero, List.setIfInBounds_toArray, List.set_cons_zero, List.set_cons_succ])
            refine wpAnyF_take (i := 15) (oi := _) (v := ?_) rfl (by kernel_rfl) (by kernel_rfl) (by kernel_rfl) (by kernel_rfl) (fun _ _ _ h => h) (Or.inl ⟨by rfl, ?_⟩) (by assumption) ?_
            rotate_left 1
            · intro w hSw
              (try dsimp only at hSw)
              (first | (go_simp; done) | (go_simp; with_reducible rfl))
            (try simp only [Act.put, List.getElem_toArray, List.getElem_cons_succ, List.getElem_cons_zero, List.setIfInBounds_toArray, List.set_cons_zero, List.set_cons_succ])
            refine wpAnyF_done (by kernel_rfl) ?_ _
            clear hHeld hHeld1 hHeld8 hHeld13
            go_wp2_with fail
            go_ret
            exact ⟨rfl, HB12.out⟩
          rcases hout with o1 | ⟨o1, o2⟩ | ⟨o1, o2, o3⟩ | ⟨o1, o2, o3, o4⟩
          all_goals
            go_wp2_with fail
            have HP7 : Hid (wr.drew.heap[p7]? = some (.cells xk 34 (0, 0))) := Lib.hid HPX.out
            have HTRD := Lib.hid (HTRX2.out.next (Below.refl _ _).drew)
            have HBWD : Hid (Below w.heap.size w wr.drew) := Lib.hid HBX2.out.drew
            refine wp_region_F (S := (fun W : World => W.heap[p7]? = some (.cells xk 34 (0, 0)))) [] (by kernel_rfl) (HP7.out) (fun hHeld => ?_)
            refine wpAnyF_take (i := 0) (oi := _) (v := ?_) rfl (by kernel_rfl) (by kernel_rfl) (by kernel_rfl) (by kernel_rfl) (fun _ _ _ h => h) (Or.inl ⟨by rfl, ?_⟩) (by assumption) ?_
            rotate_left 1
            · intro w hSw
              (try dsimp only at hSw)
              (first | (go_simp; done) | (go_simp; with_reducible rfl))
            (try simp only [Act.put, List.getElem_toArray, List.getElem_cons_succ, List.getElem_cons_zero, List.setIfInBounds_toArray, List.set_cons_zero, List.set_cons_succ])
            refine wpAnyF_take (i := 2) (oi := _) (v := ?_) rfl (by kernel_rfl) (by kernel_rfl) (by kernel_rfl) (by kernel_rfl) (fun _ _ _ h => h) (Or.inl ⟨by rfl, ?_⟩) (by assumption) ?_
            rotate_left 1
            · intro w hSw
              (try dsimp only at hSw)
              (first | (go_simp; done) | (go_simp; with_reducible rfl))
            (try simp only [Act.put, List.getElem_toArray, List.getElem_cons_succ, List.getElem_cons_zero, List.setIfInBounds_toArray, List.set_cons_zero, List.set_cons_succ])
            refine wpAnyF_ready (rs := [1]) (by kernel_rfl) (by simp) ?_
            refine AllReadyF.cons (o := _) rfl (fun K hK => ?_) AllReadyF.nil
            go_simp
            refine (tdepth_any T b n D lb cap q F _ HTRD.out).mono ?_
            rintro e w10 ⟨rfl, rfl⟩
            refine hK.out _ _ (hHeld) (fun hHeld1 => ?_)
            clear hK K
            (try simp only [Act.put, List.getElem_toArray, List.getElem_cons_succ, List.getElem_cons_zero, List.setIfInBounds_toArray, List.set_cons_zero, List.set_cons_succ])
            refine wpAnyF_take (i := 3) (oi := _) (v := ?_) rfl (by kernel_rfl) (by kernel_rfl) (by kernel_rfl) (by kernel_rfl) (fun _ _ _ h => h) (Or.inl ⟨by rfl, ?_⟩) (by assumption) ?_
            rotate_left 1
            · intro w hSw
              (try dsimp only at hSw)
              (first | (go_simp; done) | (go_simp; with_reducible rfl))
            (try simp only [Act.put, List.getElem_toArray, List.getElem_cons_succ, List.getElem_cons_zero, List.setIfInBounds_toArray, List.set_cons_zero, List.set_cons_succ])
            refine wpAnyF_take (i := 4) (oi := _) (v := ?_) rfl (by kernel_rfl) (by kernel_rfl) (by kernel_rfl) (by kernel_rfl) (fun _ _ _ h => h) (Or.inl ⟨by rfl, ?_⟩) (by assumption) ?_
            rotate_left 1
            · intro w hSw
              (try dsimp only at hSw)
              (first | (go_simp; done) | (go_simp; with_reducible rfl))
            (try simp only [Act.put, List.getElem_toArray, List.getElem_cons_succ, List.getElem_cons_zero, List.setIfInBounds_toArray, List.set_cons_zero, List.set_cons_succ])
            refine wpAnyF_take (i := 5) (oi := _) (v := ?_) rfl (by kernel_rfl) (by kernel_rfl) (by kernel_rfl) (by kernel_rfl) (fun _ _ _ h => h) (Or.inl ⟨by rfl, ?_⟩) (by assumption) ?_
            rotate_left 1
            · intro w hSw
              (try dsimp only at hSw)
              (first | (go_simp; done) | (go_simp; with_reducible rfl))
            (try simp only [Act.put, List.getElem_toArray, List.getElem_cons_succ, List.getElem_cons_zero, List.setIfInBounds_toArray, List.set_cons_zero, List.set_cons_succ])
            refine wpAnyF_take (i := 6) (oi := _) (v := ?_) rfl (by kernel_rfl) (by kernel_rfl) (by kernel_rfl) (by kernel_rfl) (fun _ _ _ h => h) (Or.inl ⟨by rfl, ?_⟩) (by assumption) ?_
            rotate_left 1
            · intro w hSw
              (try dsimp only at hSw)
              (first | (go_simp; done) | (go_simp; with_reducible rfl))
            (try simp only [Act.put, List.getElem_toArray, List.getElem_cons_succ, List.getElem_cons_zero, List.setIfInBounds_toArray, List.set_cons_zero, List.set_cons_succ])
            refine wpAnyF_take (i := 7) (oi := _) (v := ?_) rfl (by kernel_rfl) (by kernel_rfl) (by kernel_rfl) (by kernel_rfl) (fun _ _ _ h => h) (Or.inl ⟨by rfl, ?_⟩) (by assumption) ?_
            rotate_left 1
            · intro w hSw
              (try dsimp only at hSw)
              (first | (go_simp; done) | (go_simp; with_reducible rfl))
            (try simp only [Act.put, List.getElem_toArray, List.getElem_cons_succ, List.getElem_cons_zero, List.setIfInBounds_toArray, List.set_cons_zero, List.set_cons_succ])
            refine wpAnyF_take (i := 9) (oi := _) (v := _) rfl (by kernel_rfl) (by kernel_rfl) (by kernel_rfl) (by kernel_rfl) (fun _ _ _ h => h) (yields_rowP (by with_unfolding_all rfl) 34 (.tmp 10) rfl p7 0 rfl xk _ (fun W h j v hv => by rw [Nat.zero_add, blk_cell h j]; simpa using hv) Try.underlying34 rfl HIK.out) (by assumption) ?_
            (try simp only [Act.put, List.getElem_toArray, List.getElem_cons_succ, List.getElem_cons_zero, List.setIfInBounds_toArray, List.set_cons_zero, List.set_cons_succ])
            refine wpAnyF_ready (rs := [8]) (by kernel_rfl) (by simp) ?_
            refine AllReadyF.cons (o := _) rfl (fun K hK => ?_) AllReadyF.nil
            go_simp
            refine (tnode_any T b n D lb cap lv i q F _ HTRD.out hib).mono ?_
            rintro e w11 ⟨rfl, hb11⟩
            rw [← HXK.out]
            have HB11 : Hid (Below w.heap.size w w11) := Lib.hid (HBWD.out.trans (hb11.mono HBWD.out.size))
            have HH11 := Lib.hid ((hb11.block _ (blk_lt hHeld1)).trans hHeld1)
            clear hb11
            refine hK.out _ _ (HH11.out) (fun hHeld8 => ?_)
            clear hK K
            (try simp only [Act.put, List.getElem_toArray, List.getElem_cons_succ, List.getElem_cons_zero, List.setIfInBounds_toArray, List.set_cons_zero, List.set_cons_succ])
            refine wpAnyF_take (i := 10) (oi := _) (v := _) rfl (by kernel_rfl) (by kernel_rfl) (by kernel_rfl) (by kernel_rfl) (fun _ _ _ h => h) (.inl ⟨by with_unfolding_all rfl, fun w h => exec_bin .eql 37 37 (.tmp 73) (.tmp 74) rfl (.agg xk) (.agg xk) (.bool true) rfl rfl (bk_guard _ _ _ _ _) (HEK.out w)⟩) (by assumption) ?_
            (try simp only [Act.put, List.getElem_toArray, List.getElem_cons_succ, List.getElem_cons_zero, List.setIfInBounds_toArray, List.set_cons_zero, List.set_cons_succ])
            refine wpAnyF_take (i := 11) (oi := _) (v := ?_) rfl (by kernel_rfl) (by kernel_rfl) (by kernel_rfl) (by kernel_rfl) (fun _ _ _ h => h) (Or.inl ⟨by rfl, ?_⟩) (by assumption) ?_
            rotate_left 1
            · intro w hSw
              (try dsimp only at hSw)
              (first | (go_simp; done) | (go_simp; with_reducible rfl))
            (try simp only [Act.put, List.getElem_toArray, List.getElem_cons_succ, List.getElem_cons_zero, List.setIfInBounds_toArray, List.set_cons_zero, List.set_cons_succ])
            refine wpAnyF_take (i := 12) (oi := _) (v := ?_) rfl (by kernel_rfl) (by kernel_rfl) (by kernel_rfl) (by kernel_rfl) (fun _ _ _ h => h) (Or.inl ⟨by rfl, ?_⟩) (by assumption) ?_
            rotate_left 1
            · intro w hSw
              (try dsimp only at hSw)
              (first | (go_simp; done) | (go_simp; with_reducible rfl))
            (try simp only [Act.put, List.getElem_toArray, List.getElem_cons_succ, List.getElem_cons_zero, List.setIfInBounds_toArray, List.set_cons_zero, List.set_cons_succ])
            refine wpAnyF_ready (rs := [13]) (by kernel_rfl) (by simp) ?_
            refine AllReadyF.cons (o := _) rfl (fun K hK => ?_) AllReadyF.nil
            go_simp
            refine (awake12_any _).mono ?_
            rintro e w12 ⟨rfl, hb12⟩
            have HB12 : Hid (Below w.heap.size w w12) := Lib.hid (HB11.out.trans (hb12.mono HB11.out.size))
            have HH12 := Lib.hid ((hb12.block _ (blk_lt hHeld8)).trans hHeld8)
            clear hb12
            refine hK.out _ _ (HH12.out) (fun hHeld13 => ?_)
            clear hK K
            (try simp only [Act.put, List.getElem_toArray, List.getElem_cons_succ, List.getElem_cons_zero, List.setIfInBounds_toArray, List.set_cons_zero, List.set_cons_succ])
            refine wpAnyF_take (i := 14) (oi := _) (v := ?_) rfl (by kernel_rfl) (by kernel_rfl) (by kernel_rfl) (by kernel_rfl) (fun _ _ _ h => h) (Or.inl ⟨by rfl, ?_⟩) (by assumption) ?_
            rotate_left 1
            · intro w hSw
              (try dsimp only at hSw)
              (first | (go_simp; done) | (go_simp; with_reducible rfl))
            (try simp only [Act.put, List.getElem_toArray, List.getElem_cons_succ, List.getElem_cons_zero, List.setIfInBounds_toArray, List.set_cons_zero, List.set_cons_succ])
            refine wpAnyF_take (i := 15) (oi := _) (v := ?_) rfl (by kernel_rfl) (by kernel_rfl) (by kernel_rfl) (by kernel_rfl) (fun _ _ _ h => h) (Or.inl ⟨by rfl, ?_⟩) (by assumption) ?_
            rotate_left 1
            · intro w hSw
              (try dsimp only at hSw)
              (first | (go_simp; done) | (go_simp; with_reducible rfl))
            (try simp only [Act.put, List.getElem_toArray, List.getElem_cons_succ, List.getElem_cons_zero, List.setIfInBounds_toArray, List.set_cons_zero, List.set_cons_succ])
            refine wpAnyF_done (by kernel_rfl) ?_ _
            clear hHeld hHeld1 hHeld8 hHeld13
            go_wp2_with fail
            go_ret
            exact ⟨rfl, HB12.out⟩
theorem treeNodes_any (n c : Nat) (A : Option Addr) (lv i : Int) (w : World) (h : (∃ ls, DgS w A n ls) ∧ n ≤ c ∧ c ≤ 9223372036854775807) (hib : i ≤ 9223372036854775807) :
    Calls Try.prog 3 #[.slice A n c, .int .i64 lv, .int .i64 i] w fun e w' => e = .returned (.bool true) ∧ Below w.heap.size w w' := by
  obtain ⟨⟨ls, hds⟩, hc, hc63⟩ := h
  by_cases hn : n ≤ 20
  · exact treeNodes_small n n c A A ls lv i w hds hn hc hib (few_small n c A w hn)
  · obtain ⟨b, o, rfl, hb, hr⟩ := hds.1 (by omega)
    exact treeNodes_small n 20 c _ _ ls lv i w ⟨fun _ => ⟨b, o, rfl, hb, fun j hj => hr j (by omega)⟩, hds.2⟩ (Nat.le_refl _) (by omega) hib (few_big n c b o w (by omega) hc hc63)
end
end Go.Proofs.Ytogipflmnnmhiaa
