/-
  LogfReads: a block of a row of blocks is stored anew; Parse of what may not be parsed.
-/
import Derived.Test.YtnalebocfbbpdaaLpA
import Derived.Test.YtnalebocfbbpdaaIntE
namespace Go.Proofs.Ytnalebocfbbpdaa
open Go.RowKit Go Go.Deep
set_option linter.unusedVariables false
set_option linter.unusedSimpArgs false
set_option maxRecDepth 100000
theorem EnI.setRow {w : World} {B0 B g k : Nat} {x : Value} {cs : Array Value} (h0 : B0 ≤ B) (hg : B ≤ g) (hh : w.heap[g]? = some (.cells cs 42 (0, 0))) {A : Option Addr} {c : Nat} {l : List Nat} (h : EnI w B0 B A c l) : EnI (w.setCell ⟨g, k, none⟩ x) B0 B A c l := by
  obtain ⟨h, hz⟩ := h
  refine ⟨?_, hz⟩
  rcases h with h | ⟨h, h2⟩
  · exact .inl (h.keep fun p hp => World.cell?_of_block (Below.heap_setCell w ⟨g, k, none⟩ x p.block (by show p.block ≠ g; omega)))
  · refine .inr ⟨h.keep fun g2 e => Below.heap_setCell w ⟨g, k, none⟩ x g2 (fun e2 => ?_), h2⟩
    obtain ⟨cs2, h3⟩ := own_rows h g2 e
    rw [e2] at h3
    rw [hh] at h3
    have h4 := Option.some.inj h3
    injection h4 with _ h5 _
    exact absurd h5 (by decide)
theorem BrM.put {w : World} {B0 B g n cap : Nat} {Ls : List (List Nat)} (h : BrM w B0 B (.slice (some ⟨g, 0, none⟩) n cap) Ls) (h0 : B0 ≤ B) {k : Nat} (hk : k < Ls.length) {A : Option Addr} {c m : Nat} {l : List Nat} (hm : l.length = m) (hy : EnI w B0 B A c l) :
    BrM (w.setCell ⟨g, k, none⟩ (.slice A m c)) B0 B (.slice (some ⟨g, 0, none⟩) n cap) (Ls.set k l) := by
  subst hm
  obtain ⟨vs, ⟨hvl, k2⟩, hit⟩ := h
  rcases k2 with ⟨e, _⟩ | ⟨g2, cap2, cur, e, hg, hh, hn, hmx, hs, ht⟩
  · cases e
  · injection e with e1 e2 e3
    have e4 := Option.some.inj e1
    injection e4 with e5 _ _
    subst e5 e2 e3
    have hvl2 : vs.length = Ls.length := by simpa using hvl
    refine ⟨vs.set k (.slice A l.length c), ⟨by rw [List.length_set, List.length_set]; exact hvl, .inr ⟨g, cap, _, by rw [List.length_set], hg, blk_set hh k _, by rw [List.length_set]; exact hn, hmx, by simpa using hs, ?_⟩⟩, fun i hi => ?_⟩
    · rw [List.length_set, Array.toList_setIfInBounds, List.take_set, ht]
    · rw [List.length_set] at hi
      by_cases e : i = k
      · subst e
        refine ⟨A, c, ?_, ?_⟩
        · rw [List.getElem?_set_self (by omega)]
          simp [List.getD, hi]
        · have e1 : (Ls.set i l).getD i [] = l := by simp [List.getD, hi]
          rw [e1]
          exact hy.setRow h0 hg hh
      · obtain ⟨A2, c2, q1, q2⟩ := hit i hi
        have e1 : (Ls.set k l).getD i [] = Ls.getD i [] := by simp only [List.getD_eq_getElem?_getD]; rw [List.getElem?_set_ne (by omega)]
        rw [e1]
        exact ⟨A2, c2, by rw [List.getElem?_set_ne (by omega)]; exact q1, q2.setRow h0 hg hh⟩
theorem step_appAll {K0 : Act → World → Prop} {o : Oper} {a : Act} {Q : Exit → Act → World → Prop} (W : World) (s x : Operand)
    (ho : o.op = .call { callee := .builtin .append, args := #[s, x], argTypes := #[29, 29] })
    (w0 : World) (B : Nat) (h0 : w0.heap.size ≤ B) (hB : B ≤ W.heap.size) (hb : Below w0.heap.size w0 W) (g n cap : Nat) (Ls : List (List Nat)) (hn : Ls.length = n) (hblk : Blk w0 g Ls) (hl : Ls.length < 1000) (hpos : ∀ i, i < Ls.length → 0 < (Ls.getD i []).length)
    (g1 : Nat) (hg1 : g1 = W.heap.size) (hs : a.eval s = .slice (some ⟨g1, 0, none⟩) 0 0) (hx : a.eval x = .slice (some ⟨g, 0, none⟩) n cap)
    (h : ∀ v' w', BrM w' w0.heap.size B v' Ls → Below W.heap.size W w' → K0 (a.put o.dst v') w') :
    Oper.wp Try.prog o a (W.alloc (.cells #[] 42)) K0 Q := by
  subst hg1 hn
  obtain ⟨i0, hi, hz0, hz1, hz2⟩ := info_parts info_bs
  obtain ⟨vs, hvl, hone, hvs⟩ := hblk.vals
  have hba : Below W.heap.size W (W.alloc (.cells #[] 42)) := (Below.refl _ _).alloc (Nat.le_refl _) _
  have hown : (W.alloc (.cells #[] 42)).ownsRow B 42 1 (.slice (some ⟨W.heap.size, 0, none⟩) 0 0) 0 [] := World.ownsRow_made W #[] 0 hB (by unfold maxLen; omega) rfl
  have hgl : g < W.heap.size := Nat.lt_of_lt_of_le hblk.1 hb.size
  refine wp_append_own _ s x 29 ho B 42 i0 (.slice none 0 0) 1 24 Try.underlying29 hi hz0 hz1 hz2 rfl (by decide) _ 0 [] hs hown ⟨g, 0, none⟩ Ls.length cap vs hx (by rw [hvl, Nat.mul_one]) ?_ hone (by unfold maxLen; omega) (by omega) (by simp; omega) ?_
  · intro j u hj
    have hjl : j < Ls.length := by
      rcases Nat.lt_or_ge j Ls.length with h1 | h1
      · exact h1
      · rw [List.getElem?_eq_none (by omega)] at hj; cases hj
    rw [Go.WideShapes.add_plain, Nat.zero_add, World.cell?_alloc_lt _ _ _ hgl, hb.cell (p := ⟨g, j, none⟩) hblk.1, (hvs j hjl).1, hj]
  · intro v' w' hown' hg _
    have hbw : Below W.heap.size W w' := hba.grown hg (by simp) (fun k hk => by simp [Value.ownBlock] at hk; omega)
    refine h v' w' ⟨vs, by simpa using hown', fun i hi2 => ?_⟩ hbw
    obtain ⟨_, A, c, k1, k2⟩ := hvs i hi2
    refine ⟨A, c, k1, .inl (k2.below (hb.trans (hbw.mono hb.size))), fun e => ?_⟩
    obtain ⟨b, o, e2, _⟩ := k2.at_ (hpos i hi2)
    rw [e] at e2; cases e2
theorem step_appBM {K0 : Act → World → Prop} {o : Oper} {a : Act} {Q : Exit → Act → World → Prop} (W : World) (s x : Operand)
    (ho : o.op = .call { callee := .builtin .append, args := #[s, x], argTypes := #[29, 29] })
    (B0 B : Nat) (h0 : B0 ≤ B) (hB : B ≤ W.heap.size) (v : Value) (A : Option Addr) (c : Nat) (Ls : List (List Nat)) (l : List Nat) (n : Nat) (hnl : l.length = n) (hs : a.eval s = v) (hown : BrM W B0 B v Ls) (hl : Ls.length < 1000)
    (g : Nat) (hgs : g = W.heap.size) (hx : a.eval x = .slice (some ⟨g, 0, none⟩) 1 1) (hy : EnI W B0 B A c l)
    (h : ∀ v' w', BrM w' B0 B v' (Ls ++ [l]) → Below B W w' → K0 (a.put o.dst v') w') :
    Oper.wp Try.prog o a (W.alloc (.cells #[.slice A n c] 42)) K0 Q := by
  subst hgs hnl
  obtain ⟨vs, hr, hit⟩ := hown
  obtain ⟨i0, hi, hz0, hz1, hz2⟩ := info_parts info_bs
  have hba : Below W.heap.size W (W.alloc (.cells #[.slice A l.length c] 42)) := (Below.refl _ _).alloc (Nat.le_refl _) _
  have hra := World.ownsRow.alloc hr (.cells #[.slice A l.length c] 42)
  have hBa : B ≤ (W.alloc (.cells #[.slice A l.length c] 42)).heap.size := by simp; omega
  refine wp_append_own _ s x 29 ho B 42 i0 (.slice none 0 0) 1 24 Try.underlying29 hi hz0 hz1 hz2 rfl (by decide) v Ls.length vs hs hra ⟨W.heap.size, 0, none⟩ 1 1
    [.slice A l.length c] hx rfl ?_ ?_ (by unfold maxLen; omega) (by omega) hBa ?_
  · intro j u hj
    match j, hj with
    | 0, hj => simp at hj; subst hj; simp [Addr.add]
  · intro u hu; simp at hu; subst hu; rfl
  · intro v' w1 hown' hg _
    have hrow : ∀ g, v.ownBlock = some g → B ≤ g ∧ ∃ cs, (W.alloc (.cells #[.slice A l.length c] 42)).heap[g]? = some (.cells cs 42 (0, 0)) := fun g e => ⟨(World.ownsRow.lt hra g e).1, own_rows hra g e⟩
    have hkeep : ∀ A2 c2 l2, EnI W B0 B A2 c2 l2 → EnI w1 B0 B A2 c2 l2 := fun A2 c2 l2 h2 => (h2.below h0 hB hba).grown h0 hBa hg hrow (by decide)
    refine h v' w1 ⟨vs ++ [.slice A l.length c], by rw [List.length_append]; exact hown', fun i hi2 => ?_⟩ ((hba.mono hB).grown hg hBa (fun k hk => (World.ownsRow.lt hra k hk).1))
    have hvl : vs.length = Ls.length := by have := hr.1; simpa using this
    by_cases hlt : i < Ls.length
    · obtain ⟨A2, c2, k1, k2⟩ := hit i hlt
      have e1 : (Ls ++ [l]).getD i [] = Ls.getD i [] := by simp [List.getD, List.getElem?_append_left hlt]
      rw [e1]
      exact ⟨A2, c2, by rw [List.getElem?_append_left (by omega)]; exact k1, hkeep _ _ _ k2⟩
    · have e0 : i = Ls.length := by rw [List.length_append] at hi2; simp at hi2; omega
      subst e0
      have e1 : (Ls ++ [l]).getD Ls.length [] = l := by simp [List.getD]
      rw [e1]
      exact ⟨A, c, by rw [← hvl]; simp, hkeep _ _ _ hy⟩
/-- Parse says ErrArg -/
def ParseNo (w : World) (e : Ending) (w' : World) : Prop := e = .returned (.tuple #[.agg #[.int .u64 0, .slice none 0 0], .int .i64 1]) ∧ Below w.heap.size w w'
set_option maxHeartbeats 4000000 in
theorem parse_geo (p t : Int) (A : Option Addr) (n c : Nat) (w : World) (hg : ¬ Geo.May p t) :
    Calls Try.prog 13 #[.agg #[.int .i64 p, .int .i64 t], .slice A n c] w (ParseNo w) := by
  obtain ⟨W0, hW⟩ : ∃ W0, W0 = (w.alloc (.cells #[.int .i64 p, .int .i64 t] 23)).alloc (.cells #[.int .u64 0, .slice none 0 0] 35) := ⟨_, rfl⟩
  have hb0 : Below w.heap.size w W0 := by rw [hW]; exact ((Below.refl _ _).alloc (Nat.le_refl _) _).alloc (by simp) _
  have hx0 : W0.heap[w.heap.size]? = some (.cells #[.int .i64 p, .int .i64 t] 23 (0, 0)) := by rw [hW]; exact blk_alloc (heap_alloc_new w _) _
  have hx1 : W0.heap[w.heap.size + 1]? = some (.cells #[.int .u64 0, .slice none 0 0] 35 (0, 0)) := by
    have := heap_alloc_new (w.alloc (.cells #[.int .i64 p, .int .i64 t] 23)) (.cells #[.int .u64 0, .slice none 0 0] 35)
    rw [show (w.alloc (.cells #[.int .i64 p, .int .i64 t] 23)).heap.size = w.heap.size + 1 by simp, ← hW] at this
    exact this
  have HI : Hid ((Try.prog.info? 23).map (·.size) = some (#[Value.int .i64 p, Value.int .i64 t] : Array Value).size) := Lib.hid (info_geo2 p t)
  have HB0 := Lib.hid hb0
  have HX0 := Lib.hid hx0
  have HX1 := Lib.hid hx1
  have HW := Lib.hid hW
  have HG := Lib.hid hg
  clear hb0 hx0 hx1 hW hg
  go_enter Try.func13, Try.ntmps13
  go_wp2_with fail
  rw [← HW.out]
  refine (check_no p t HG.out _).mono ?_
  rintro e w1 ⟨rfl, hb1⟩
  have HB1 := Lib.hid hb1
  have hr1 := (hb1.block _ (blk_lt HX1.out)).trans HX1.out
  have HR1 := Lib.hid hr1
  clear hb1 hr1
  have HFX : Hid (((w1.setCell ⟨w.heap.size + 1, 0, none⟩ (.int .u64 0)).setCell ⟨w.heap.size + 1, 1, none⟩ (.slice none 0 0)).heap[w.heap.size + 1]? = some (.cells #[.int .u64 0, .slice none 0 0] 35 (0, 0))) := Lib.hid (by
    have h := blk_set (blk_set (HR1.out) 0 (.int .u64 0)) 1 (.slice none 0 0)
    simpa using h)
  have dd0 := blk_cell (HR1.out) 0
  have dd1 := blk_cell (HR1.out) 1
  have ff0 := blk_free (HR1.out) 0
  have ff1 := blk_free (HR1.out) 1
  have HIL : Hid ((Try.prog.info? 35).map (·.size) = some (#[.int .u64 0, .slice none 0 0] : Array Value).size) := Lib.hid (by rw [show (#[.int .u64 0, .slice none 0 0] : Array Value).size = 2 from rfl]; kernel_rfl)
  have HF : Hid (ParseNo w (.returned (.tuple #[.agg #[.int .u64 0, .slice none 0 0], .int .i64 1])) ((w1.setCell ⟨w.heap.size + 1, 0, none⟩ (.int .u64 0)).setCell ⟨w.heap.size + 1, 1, none⟩ (.slice none 0 0))) := Lib.hid ⟨rfl, ((HB0.out.trans ((HB1.out).mono HB0.out.size)).setCell (p := ⟨w.heap.size + 1, 0, none⟩) (by show w.heap.size ≤ w.heap.size + 1; omega) _).setCell (p := ⟨w.heap.size + 1, 1, none⟩) (by show w.heap.size ≤ w.heap.size + 1; omega) _⟩
  go_wp2
  exact bodyPost_ret (v := .tuple #[.agg #[.int .u64 0, .slice none 0 0], .int .i64 1]) (results_row_num rfl _ _ _ 35 _ (0, 0) _ _ rfl rfl HFX.out Try.underlying35 rfl HIL.out) rfl HF.out
set_option maxHeartbeats 4000000 in
theorem parse_len (p t : Nat) (A : Option Addr) (n c : Nat) (w : World) (hg : Geo.May p t) (hn : n ≠ t + 1) :
    Calls Try.prog 13 #[.agg #[.int .i64 (p : Int), .int .i64 (t : Int)], .slice A n c] w (ParseNo w) := by
  obtain ⟨W0, hW⟩ : ∃ W0, W0 = (w.alloc (.cells #[.int .i64 (p : Int), .int .i64 (t : Int)] 23)).alloc (.cells #[.int .u64 0, .slice none 0 0] 35) := ⟨_, rfl⟩
  have hb0 : Below w.heap.size w W0 := by rw [hW]; exact ((Below.refl _ _).alloc (Nat.le_refl _) _).alloc (by simp) _
  have hx0 : W0.heap[w.heap.size]? = some (.cells #[.int .i64 (p : Int), .int .i64 (t : Int)] 23 (0, 0)) := by rw [hW]; exact blk_alloc (heap_alloc_new w _) _
  have hx1 : W0.heap[w.heap.size + 1]? = some (.cells #[.int .u64 0, .slice none 0 0] 35 (0, 0)) := by
    have := heap_alloc_new (w.alloc (.cells #[.int .i64 (p : Int), .int .i64 (t : Int)] 23)) (.cells #[.int .u64 0, .slice none 0 0] 35)
    rw [show (w.alloc (.cells #[.int .i64 (p : Int), .int .i64 (t : Int)] 23)).heap.size = w.heap.size + 1 by simp, ← hW] at this
    exact this
  have HI : Hid ((Try.prog.info? 23).map (·.size) = some (#[Value.int .i64 (p : Int), Value.int .i64 (t : Int)] : Array Value).size) := Lib.hid (info_geo2 p t)
  have HB0 := Lib.hid hb0
  have HX0 := Lib.hid hx0
  have HX1 := Lib.hid hx1
  have HW := Lib.hid hW
  have HG := Lib.hid hg
  have hne : ((n : Int) != 1 + (t : Int)) = true := by rw [bne_iff_ne]; omega
  have ht24 : (t : Int) ≤ 24 := by unfold Geo.May at hg; omega
  have hwt : IntKind.i64.wrap (1 + (t : Int)) = 1 + (t : Int) := by unfold IntKind.wrap; simp [IntKind.signed, IntKind.bits]; omega
  clear hb0 hx0 hx1 hW hg hn
  go_enter Try.func13, Try.ntmps13
  go_wp2_with fail
  rw [← HW.out]
  refine (check_yes p t HG.out _).mono ?_
  rintro e w1 ⟨rfl, hb1⟩
  have HB1 := Lib.hid hb1
  have hr1 := (hb1.block _ (blk_lt HX1.out)).trans HX1.out
  have hg1 := (hb1.block _ (blk_lt HX0.out)).trans HX0.out
  have HR1 := Lib.hid hr1
  have gt := blk_cell hg1 1
  clear hb1 hr1 hg1
  have HFX : Hid (((w1.setCell ⟨w.heap.size + 1, 0, none⟩ (.int .u64 0)).setCell ⟨w.heap.size + 1, 1, none⟩ (.slice none 0 0)).heap[w.heap.size + 1]? = some (.cells #[.int .u64 0, .slice none 0 0] 35 (0, 0))) := Lib.hid (by
    have h := blk_set (blk_set (HR1.out) 0 (.int .u64 0)) 1 (.slice none 0 0)
    simpa using h)
  have dd0 := blk_cell (HR1.out) 0
  have dd1 := blk_cell (HR1.out) 1
  have ff0 := blk_free (HR1.out) 0
  have ff1 := blk_free (HR1.out) 1
  have HIL : Hid ((Try.prog.info? 35).map (·.size) = some (#[.int .u64 0, .slice none 0 0] : Array Value).size) := Lib.hid (by rw [show (#[.int .u64 0, .slice none 0 0] : Array Value).size = 2 from rfl]; kernel_rfl)
  have HF : Hid (ParseNo w (.returned (.tuple #[.agg #[.int .u64 0, .slice none 0 0], .int .i64 1])) ((w1.setCell ⟨w.heap.size + 1, 0, none⟩ (.int .u64 0)).setCell ⟨w.heap.size + 1, 1, none⟩ (.slice none 0 0))) := Lib.hid ⟨rfl, ((HB0.out.trans ((HB1.out).mono HB0.out.size)).setCell (p := ⟨w.heap.size + 1, 0, none⟩) (by show w.heap.size ≤ w.heap.size + 1; omega) _).setCell (p := ⟨w.heap.size + 1, 1, none⟩) (by show w.heap.size ≤ w.heap.size + 1; omega) _⟩
  go_wp2
  exact bodyPost_ret (v := .tuple #[.agg #[.int .u64 0, .slice none 0 0], .int .i64 1]) (results_row_num rfl _ _ _ 35 _ (0, 0) _ _ rfl rfl HFX.out Try.underlying35 rfl HIL.out) rfl HF.out
set_option maxHeartbeats 4000000 in
theorem parse_odd (p t gB cap i0 : Nat) (Ls : List (List Nat)) (w : World) (hg : Geo.May p t) (hLs : Ls.length = t + 1) (hcap : t + 1 ≤ cap) (hcap9 : cap ≤ 9223372036854775807) (hi0 : i0 < Ls.length) (ho : (Ls.getD i0 []).length ≠ 256) (hblk : Blk w gB Ls) :
    Calls Try.prog 13 #[.agg #[.int .i64 (p : Int), .int .i64 (t : Int)], .slice (some ⟨gB, 0, none⟩) (t + 1) cap] w (ParseNo w) := by
  obtain ⟨W0, hW⟩ : ∃ W0, W0 = (w.alloc (.cells #[.int .i64 (p : Int), .int .i64 (t : Int)] 23)).alloc (.cells #[.int .u64 0, .slice none 0 0] 35) := ⟨_, rfl⟩
  have hb0 : Below w.heap.size w W0 := by rw [hW]; exact ((Below.refl _ _).alloc (Nat.le_refl _) _).alloc (by simp) _
  have hx0 : W0.heap[w.heap.size]? = some (.cells #[.int .i64 (p : Int), .int .i64 (t : Int)] 23 (0, 0)) := by rw [hW]; exact blk_alloc (heap_alloc_new w _) _
  have hx1 : W0.heap[w.heap.size + 1]? = some (.cells #[.int .u64 0, .slice none 0 0] 35 (0, 0)) := by
    have := heap_alloc_new (w.alloc (.cells #[.int .i64 (p : Int), .int .i64 (t : Int)] 23)) (.cells #[.int .u64 0, .slice none 0 0] 35)
    rw [show (w.alloc (.cells #[.int .i64 (p : Int), .int .i64 (t : Int)] 23)).heap.size = w.heap.size + 1 by simp, ← hW] at this
    exact this
  have HI : Hid ((Try.prog.info? 23).map (·.size) = some (#[Value.int .i64 (p : Int), Value.int .i64 (t : Int)] : Array Value).size) := Lib.hid (info_geo2 p t)
  have HB0 := Lib.hid hb0
  have HX0 := Lib.hid hx0
  have HX1 := Lib.hid hx1
  have HW := Lib.hid hW
  have HG := Lib.hid hg
  have hne : ((t : Int) + 1 != 1 + (t : Int)) = false := by rw [bne_eq_false_iff_eq]; omega
  have ht24 : (t : Int) ≤ 24 := by unfold Geo.May at hg; omega
  have hwt : IntKind.i64.wrap (1 + (t : Int)) = 1 + (t : Int) := by unfold IntKind.wrap; simp [IntKind.signed, IntKind.bits]; omega
  have HCN : Hid (∀ W, Below W0.heap.size W0 W → Calls Try.prog 28 #[.slice (some ⟨gB, 0, none⟩) (t + 1) cap, .func (Fn.func 29) #[] #[]] W fun e w' => e = .returned (.bool true) ∧ W = w') := Lib.hid (fun W h => by
    have := bcontains_yes gB cap i0 Ls W ((hblk.below hb0).below h) (by omega) hi0 ho
    rw [hLs] at this
    exact this)
  clear hb0 hx0 hx1 hW hg hLs hblk hi0 ho
  go_enter Try.func13, Try.ntmps13
  go_wp2_with fail
  rw [← HW.out]
  refine (check_yes p t HG.out _).mono ?_
  rintro e w1 ⟨rfl, hb1⟩
  have HB1 := Lib.hid hb1
  have hr1 := (hb1.block _ (blk_lt HX1.out)).trans HX1.out
  have hg1 := (hb1.block _ (blk_lt HX0.out)).trans HX0.out
  have HR1 := Lib.hid hr1
  have gt := blk_cell hg1 1
  clear hb1 hr1 hg1
  go_wp2_with fail
  refine (HCN.out w1 HB1.out).mono ?_
  rintro e w2 ⟨rfl, rfl⟩
  have HFX : Hid (((w1.setCell ⟨w.heap.size + 1, 0, none⟩ (.int .u64 0)).setCell ⟨w.heap.size + 1, 1, none⟩ (.slice none 0 0)).heap[w.heap.size + 1]? = some (.cells #[.int .u64 0, .slice none 0 0] 35 (0, 0))) := Lib.hid (by
    have h := blk_set (blk_set (HR1.out) 0 (.int .u64 0)) 1 (.slice none 0 0)
    simpa using h)
  have dd0 := blk_cell (HR1.out) 0
  have dd1 := blk_cell (HR1.out) 1
  have ff0 := blk_free (HR1.out) 0
  have ff1 := blk_free (HR1.out) 1
  have HIL : Hid ((Try.prog.info? 35).map (·.size) = some (#[.int .u64 0, .slice none 0 0] : Array Value).size) := Lib.hid (by rw [show (#[.int .u64 0, .slice none 0 0] : Array Value).size = 2 from rfl]; kernel_rfl)
  have HF : Hid (ParseNo w (.returned (.tuple #[.agg #[.int .u64 0, .slice none 0 0], .int .i64 1])) ((w1.setCell ⟨w.heap.size + 1, 0, none⟩ (.int .u64 0)).setCell ⟨w.heap.size + 1, 1, none⟩ (.slice none 0 0))) := Lib.hid ⟨rfl, ((HB0.out.trans ((HB1.out).mono HB0.out.size)).setCell (p := ⟨w.heap.size + 1, 0, none⟩) (by show w.heap.size ≤ w.heap.size + 1; omega) _).setCell (p := ⟨w.heap.size + 1, 1, none⟩) (by show w.heap.size ≤ w.heap.size + 1; omega) _⟩
  go_wp2
  exact bodyPost_ret (v := .tuple #[.agg #[.int .u64 0, .slice none 0 0], .int .i64 1]) (results_row_num rfl _ _ _ 35 _ (0, 0) _ _ rfl rfl HFX.out Try.underlying35 rfl HIL.out) rfl HF.out
end Go.Proofs.Ytnalebocfbbpdaa
