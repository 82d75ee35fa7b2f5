/-
  Package garderobelaw14: filled.
-/
import Derived.Test.YtnalebocfbbpdaaLgT
namespace Go.Proofs.Ytnalebocfbbpdaa
open Go.RowKit Go
set_option linter.unusedVariables false
set_option linter.unusedSimpArgs false
set_option maxRecDepth 100000
/-- a row of slices of bytes that the call itself made; each slice is an old one, or one of the call's own -/
def BrM (w : World) (B0 B : Nat) (v : Value) (Ls : List (List Nat)) : Prop := ∃ vs : List Value, w.ownsRow B 42 1 v Ls.length vs ∧ ∀ i, i < Ls.length → ∃ A c, vs[i]? = some (.slice A (Ls.getD i []).length c) ∧ EnI w B0 B A c (Ls.getD i [])
theorem BrM.below {w w' : World} {B0 B : Nat} {v : Value} {Ls : List (List Nat)} (h : BrM w B0 B v Ls) (h0 : B0 ≤ B) (hB : B ≤ w.heap.size) (hb : Below w.heap.size w w') : BrM w' B0 B v Ls := by
  obtain ⟨vs, h1, h2⟩ := h
  refine ⟨vs, h1.kept (row := none) ⟨hb.os, hb.tape, hb.output, hb.size, fun k hk _ => hb.block k hk⟩ (by cases hv : v.ownBlock <;> simp), fun i hi => ?_⟩
  obtain ⟨A, c, h3, h4⟩ := h2 i hi
  exact ⟨A, c, h3, h4.below h0 hB hb⟩
theorem BrM.at_ {w : World} {B0 B : Nat} {v : Value} {Ls : List (List Nat)} (h : BrM w B0 B v Ls) (h0 : B0 ≤ B) (hB : B ≤ w.heap.size) (hl : 0 < Ls.length) : ∃ g cap, v = .slice (some ⟨g, 0, none⟩) Ls.length cap ∧ Blk w g Ls ∧ Ls.length ≤ cap ∧ cap ≤ 9223372036854775807 ∧ B ≤ g ∧ ∃ cur, w.heap[g]? = some (.cells cur 42 (0, 0)) ∧ cur.size = cap := by
  obtain ⟨vs, ⟨hvl, k⟩, h2⟩ := h
  rcases k with ⟨rfl, e⟩ | ⟨g, cap, cur, rfl, hg, hh, hn, hm, hs, ht⟩
  · omega
  · refine ⟨g, cap, rfl, ⟨blk_lt hh, fun i hi => ?_⟩, hn, hm, hg, cur, hh, by rw [hs, Nat.mul_one]⟩
    obtain ⟨A, c, k1, k2⟩ := h2 i hi
    refine ⟨A, c, (blk_cell hh i).trans ?_, k2.bs h0 hB⟩
    have h3 : (cur.toList.take (Ls.length * 1))[i]? = some (.slice A (Ls.getD i []).length c) := by rw [ht]; exact k1
    rw [List.getElem?_take_of_lt (by omega)] at h3
    simpa using h3
theorem BrM.form {w : World} {B0 B : Nat} {v : Value} {Ls : List (List Nat)} (h : BrM w B0 B v Ls) : ∃ A c, v = .slice A Ls.length c := by
  obtain ⟨vs, ⟨hvl, k⟩, h2⟩ := h
  rcases k with ⟨rfl, e⟩ | ⟨g, cap, cur, rfl, hg, hh, hn, hm, hs, ht⟩
  · exact ⟨_, _, by rw [e]⟩
  · exact ⟨_, _, rfl⟩
theorem wp_appBM {ops : Array Oper} {rest : List Oper} {o : Oper} {a : Act} {Q : Exit → Act → World → Prop} (W : World) (hgd : o.guard = none) (s x : Operand)
    (ho : o.op = .call { callee := .builtin .append, args := #[s, x], argTypes := #[29, 29] })
    (B0 B : Nat) (h0 : B0 ≤ B) (hB : B ≤ W.heap.size) (v : Value) (A : Option Addr) (c : Nat) (Ls : List (List Nat)) (l : List Nat) (n : Nat) (hnl : l.length = n) (hs : a.eval s = v) (hown : BrM W B0 B v Ls) (hl : Ls.length < 1000)
    (g : Nat) (hgs : g = W.heap.size) (hx : a.eval x = .slice (some ⟨g, 0, none⟩) 1 1) (hy : EnI W B0 B A c l)
    (h : ∀ v' w', BrM w' B0 B v' (Ls ++ [l]) → Below B W w' → wpList Try.prog ops Q rest (a.put o.dst v') w') :
    wpList Try.prog ops Q (o :: rest) a (W.alloc (.cells #[.slice A n c] 42)) := by
  subst hgs hnl
  obtain ⟨vs, hr, hit⟩ := hown
  obtain ⟨i0, hi, hz0, hz1, hz2⟩ := info_parts info_bs
  have hba : Below W.heap.size W (W.alloc (.cells #[.slice A l.length c] 42)) := (Below.refl _ _).alloc (Nat.le_refl _) _
  have hra := World.ownsRow.alloc hr (.cells #[.slice A l.length c] 42)
  have hBa : B ≤ (W.alloc (.cells #[.slice A l.length c] 42)).heap.size := by simp; omega
  refine wpList_append_own _ hgd s x 29 ho B 42 i0 (.slice none 0 0) 1 24 Try.underlying29 hi hz0 hz1 hz2 rfl (by decide) v Ls.length vs hs hra ⟨W.heap.size, 0, none⟩ 1 1
    [.slice A l.length c] hx rfl ?_ ?_ (by unfold maxLen; omega) (by omega) hBa ?_
  · intro j u hj
    match j, hj with
    | 0, hj => simp at hj; subst hj; simp [Addr.add]
  · intro u hu; simp at hu; subst hu; rfl
  · intro v' w1 hown' hg _
    have hrow : ∀ g, v.ownBlock = some g → B ≤ g ∧ ∃ cs, (W.alloc (.cells #[.slice A l.length c] 42)).heap[g]? = some (.cells cs 42 (0, 0)) := fun g e => ⟨(World.ownsRow.lt hra g e).1, own_rows hra g e⟩
    have hkeep : ∀ A2 c2 l2, EnI W B0 B A2 c2 l2 → EnI w1 B0 B A2 c2 l2 := fun A2 c2 l2 h2 => (h2.below h0 hB hba).grown h0 hBa hg hrow (by decide)
    refine h v' w1 ⟨vs ++ [.slice A l.length c], by rw [List.length_append]; exact hown', fun i hi2 => ?_⟩ ((hba.mono hB).grown hg hBa (fun k hk => (World.ownsRow.lt hra k hk).1))
    have hvl : vs.length = Ls.length := by have := hr.1; simpa using this
    by_cases hlt : i < Ls.length
    · obtain ⟨A2, c2, k1, k2⟩ := hit i hlt
      have e1 : (Ls ++ [l]).getD i [] = Ls.getD i [] := by simp [List.getD, List.getElem?_append_left hlt]
      rw [e1]
      exact ⟨A2, c2, by rw [List.getElem?_append_left (by omega)]; exact k1, hkeep _ _ _ k2⟩
    · have e0 : i = Ls.length := by rw [List.length_append] at hi2; simp at hi2; omega
      subst e0
      have e1 : (Ls ++ [l]).getD Ls.length [] = l := by simp [List.getD]
      rw [e1]
      exact ⟨A, c, by rw [← hvl]; simp, hkeep _ _ _ hy⟩
theorem Blk.vals {w : World} {g : Nat} {Ls : List (List Nat)} (h : Blk w g Ls) : ∃ vs : List Value, vs.length = Ls.length ∧ (∀ v ∈ vs, v.oneCell' = true) ∧ ∀ i, i < Ls.length → w.cell? ⟨g, i, none⟩ = vs[i]? ∧ ∃ A c, vs[i]? = some (.slice A (Ls.getD i []).length c) ∧ BS w w.heap.size A (Ls.getD i []).length c (Ls.getD i []) := by
  have key : ∀ i, ∃ q : Option Addr × Nat, i < Ls.length → w.cell? ⟨g, i, none⟩ = some (.slice q.1 (Ls.getD i []).length q.2) ∧ BS w w.heap.size q.1 (Ls.getD i []).length q.2 (Ls.getD i []) := fun i => by
    by_cases hi : i < Ls.length
    · obtain ⟨A, c, h1, h2⟩ := h.2 i hi
      exact ⟨(A, c), fun _ => ⟨h1, h2⟩⟩
    · exact ⟨(none, 0), fun h => absurd h hi⟩
  obtain ⟨F, hF⟩ := Classical.axiomOfChoice key
  refine ⟨(List.range Ls.length).map fun i => .slice (F i).1 (Ls.getD i []).length (F i).2, by simp, fun v hv => ?_, fun i hi => ?_⟩
  · obtain ⟨i, _, rfl⟩ := List.mem_map.mp hv
    rfl
  · have e : ((List.range Ls.length).map fun i => Value.slice (F i).1 (Ls.getD i []).length (F i).2)[i]? = some (.slice (F i).1 (Ls.getD i []).length (F i).2) := by
      rw [List.getElem?_map, List.getElem?_range hi]; rfl
    rw [e]
    exact ⟨(hF i hi).1, _, _, rfl, (hF i hi).2⟩
/-- all of a row is appended to none -/
theorem wp_appAll {ops : Array Oper} {rest : List Oper} {o : Oper} {a : Act} {Q : Exit → Act → World → Prop} (W : World) (hgd : o.guard = none) (s x : Operand)
    (ho : o.op = .call { callee := .builtin .append, args := #[s, x], argTypes := #[29, 29] })
    (w0 : World) (B : Nat) (h0 : w0.heap.size ≤ B) (hB : B ≤ W.heap.size) (hb : Below w0.heap.size w0 W) (g n cap : Nat) (Ls : List (List Nat)) (hn : Ls.length = n) (hblk : Blk w0 g Ls) (hl : Ls.length < 1000) (hpos : ∀ i, i < Ls.length → 0 < (Ls.getD i []).length)
    (g1 : Nat) (hg1 : g1 = W.heap.size) (hs : a.eval s = .slice (some ⟨g1, 0, none⟩) 0 0) (hx : a.eval x = .slice (some ⟨g, 0, none⟩) n cap)
    (h : ∀ v' w', BrM w' w0.heap.size B v' Ls → Below W.heap.size W w' → wpList Try.prog ops Q rest (a.put o.dst v') w') :
    wpList Try.prog ops Q (o :: rest) a (W.alloc (.cells #[] 42)) := by
  subst hg1 hn
  obtain ⟨i0, hi, hz0, hz1, hz2⟩ := info_parts info_bs
  obtain ⟨vs, hvl, hone, hvs⟩ := hblk.vals
  have hba : Below W.heap.size W (W.alloc (.cells #[] 42)) := (Below.refl _ _).alloc (Nat.le_refl _) _
  have hown : (W.alloc (.cells #[] 42)).ownsRow B 42 1 (.slice (some ⟨W.heap.size, 0, none⟩) 0 0) 0 [] := World.ownsRow_made W #[] 0 hB (by unfold maxLen; omega) rfl
  have hgl : g < W.heap.size := Nat.lt_of_lt_of_le hblk.1 hb.size
  refine wpList_append_own _ hgd s x 29 ho B 42 i0 (.slice none 0 0) 1 24 Try.underlying29 hi hz0 hz1 hz2 rfl (by decide) _ 0 [] hs hown ⟨g, 0, none⟩ Ls.length cap vs hx (by rw [hvl, Nat.mul_one]) ?_ hone (by unfold maxLen; omega) (by omega) (by simp; omega) ?_
  · intro j u hj
    have hjl : j < Ls.length := by
      rcases Nat.lt_or_ge j Ls.length with h1 | h1
      · exact h1
      · rw [List.getElem?_eq_none (by omega)] at hj; cases hj
    rw [Go.WideShapes.add_plain, Nat.zero_add, World.cell?_alloc_lt _ _ _ hgl, hb.cell (p := ⟨g, j, none⟩) hblk.1, (hvs j hjl).1, hj]
  · intro v' w' hown' hg _
    have hbw : Below W.heap.size W w' := hba.grown hg (by simp) (fun k hk => by simp [Value.ownBlock] at hk; omega)
    refine h v' w' ⟨vs, by simpa using hown', fun i hi2 => ?_⟩ hbw
    obtain ⟨_, A, c, k1, k2⟩ := hvs i hi2
    refine ⟨A, c, k1, .inl (k2.below (hb.trans (hbw.mono hb.size))), fun e => ?_⟩
    obtain ⟨b, o, e2, _⟩ := k2.at_ (hpos i hi2)
    rw [e] at e2; cases e2
theorem one_cell (cv : Nat) (i : Nat) (hi : i < 1) : (#[.int .u8 (cv : Int)] : Array Value)[i]? = some (.int .u8 ((([cv] : List Nat).getD i 0 : Nat) : Int)) := by
  match i, hi with
  | 0, _ => rfl
def FilR (w : World) (W0 : World) (Ls : List (List Nat)) (fc : List Nat) (t : Nat) (v : Value) (wr : World) : Prop :=
  ∃ j : Nat, Ls.length + j ≤ t + 1 ∧ BrM wr w.heap.size W0.heap.size v (Ls ++ List.replicate j fc) ∧ Below W0.heap.size W0 wr
def FilTo (w : World) (Ls : List (List Nat)) (fc : List Nat) (t : Nat) (e : Ending) (w' : World) : Prop :=
  ∃ g cap, e = .returned (.slice (some ⟨g, 0, none⟩) (t + 1) cap) ∧ Blk w' g (Ls ++ List.replicate (t + 1 - Ls.length) fc) ∧ Below w.heap.size w w' ∧ t + 1 ≤ cap ∧ cap ≤ 9223372036854775807 ∧ w.heap.size ≤ g ∧ (∃ cur, w'.heap[g]? = some (.cells cur 42 (0, 0)) ∧ cur.size = cap) ∧ ∃ B, w.heap.size ≤ B ∧ B ≤ g ∧ BrM w' w.heap.size B (.slice (some ⟨g, 0, none⟩) (t + 1) cap) (Ls ++ List.replicate (t + 1 - Ls.length) fc)
set_option maxHeartbeats 4000000 in
theorem filled_any (p t cv g n cap : Nat) (Ls : List (List Nat)) (ht : t ≤ 24) (hc : cv < 256) (hn : Ls.length = n) (h1 : 1 ≤ n) (hnt : n ≤ t + 1) (hpos : ∀ i, i < Ls.length → 0 < (Ls.getD i []).length) (w : World) (hblk : Blk w g Ls) :
    Calls Try.prog 14 #[.agg #[.int .i64 (p : Int), .int .i64 (t : Int)], .slice (some ⟨g, 0, none⟩) n cap, .int .u8 (cv : Int)] w (FilTo w Ls (fullL [cv]) t) := by
  obtain ⟨W0, hW⟩ : ∃ W0, W0 = w.alloc (.cells #[.int .i64 (p : Int), .int .i64 (t : Int)] 23) := ⟨_, rfl⟩
  have hb0 : Below w.heap.size w W0 := by rw [hW]; exact (Below.refl _ _).alloc (Nat.le_refl _) _
  have hx0 : W0.heap[w.heap.size]? = some (.cells #[.int .i64 (p : Int), .int .i64 (t : Int)] 23 (0, 0)) := by rw [hW]; exact heap_alloc_new w _
  have HB0 := Lib.hid hb0
  have HX0 := Lib.hid hx0
  have HBLK := Lib.hid hblk
  have HN := Lib.hid hn
  have HP := Lib.hid hpos
  have HC : Hid (∀ W, Below W0.heap.size W0 W → W.cell? ⟨w.heap.size, 1, none⟩ = some (.int .i64 (t : Int))) := Lib.hid (fun W h => blk_cell ((h.block _ (blk_lt HX0.out)).trans HX0.out) 1)
  have HFL : Hid ((fullL [cv]).length = 256) := Lib.hid (full_len [cv])
  have HCB : Hid (∀ i, ([cv] : List Nat).getD i 0 < 256) := Lib.hid (fun i => by match i with | 0 => exact hc | i + 1 => simp)
  have HFB : Hid (∀ i, (fullL [cv]).getD i 0 < 256) := Lib.hid (fullL_byte HCB.out)
  have HFU : Hid (∀ W : World, Calls Try.prog 19 #[.slice (some ⟨W.heap.size, 0, none⟩) 1 1] (W.alloc (.cells #[.int .u8 (cv : Int)] 5)) (GivesO (W.alloc (.cells #[.int .u8 (cv : Int)] 5)) (fullL [cv]))) := Lib.hid (fun W => full_any (some ⟨W.heap.size, 0, none⟩) 1 1 [cv] (fun e => by cases e) _ (BS.of_blk (heap_alloc_new W _) (by simp) rfl (Nat.le_refl _) (by omega) HCB.out (one_cell cv)))
  generalize fullL [cv] = fc at *
  have HW := Lib.hid hW
  clear hb0 hx0 hblk hn hpos hW
  go_enter Try.func14, Try.ntmps14
  go_wp2_with (at_builtin; refine wp_appAll (w.alloc (.cells #[.int .i64 (p : Int), .int .i64 (t : Int)] 23)) rfl (.tmp 8) (.tmp 9) rfl w W0.heap.size HB0.out.size (by rw [HW.out]; exact Nat.le_refl _) (by rw [← HW.out]; exact HB0.out) g n cap Ls HN.out HBLK.out (by rw [HN.out]; omega) HP.out _ (by simp) rfl rfl ?_; intro v1 w1 hbm hb1; rw [← HW.out] at hb1; have HBM := Lib.hid hbm; have HB1 : Hid (Below W0.heap.size W0 w1) := Lib.hid hb1; clear hbm hb1)
  go_loopw [7] (fun v wr => FilR w W0 Ls fc t v wr) (fun v _ => t + 1 - (lenVal v).toNat)
  case atStart => exact ⟨0, by rw [HN.out]; omega, by simpa using HBM.out, HB1.out⟩
  case round =>
    clear HBM HB1 HBLK HP
    obtain ⟨j, hj, hbm, hb⟩ := hrel
    have HB := Lib.hid hb
    have HSZ : Hid (w.heap.size ≤ W0.heap.size) := Lib.hid HB0.out.size
    have hNN := HN.out
    have HRP : Hid (Ls ++ List.replicate (j + 1) fc = (Ls ++ List.replicate j fc) ++ [fc]) := Lib.hid (by rw [List.replicate_succ', List.append_assoc])
    have hlen : (Ls ++ List.replicate j fc).length = n + j := by simp [hNN]
    have HEND : Hid (n + j = t + 1 → Ls ++ List.replicate j fc = Ls ++ List.replicate (t + 1 - Ls.length) fc) := Lib.hid (fun h => by rw [hNN, show t + 1 - n = j by omega])
    obtain ⟨m, hm⟩ : ∃ m, m = n + j := ⟨_, rfl⟩
    rw [← hm] at hlen HEND
    have hmt : m ≤ t + 1 := by omega
    obtain ⟨LL, hLL⟩ : ∃ LL, LL = Ls ++ List.replicate j fc := ⟨_, rfl⟩
    rw [← hLL] at hbm HRP hlen HEND
    have HLN := Lib.hid hlen
    have HBM := Lib.hid hbm
    obtain ⟨A, c, e⟩ := hbm.form
    rw [hlen] at e
    subst e
    have HC1 := HC.out wr hb
    have HM := Lib.hid hm
    have HNJ := Lib.hid hNN
    have HJ := Lib.hid hj
    clear hbm hb hLL hlen hm hNN hj
    by_cases hlt : m < t + 1
    · have HA5 : Hid (Below wr.heap.size wr (wr.alloc (.cells #[.int .u8 (cv : Int)] 5))) := Lib.hid ((Below.refl _ _).alloc (Nat.le_refl _) _)
      go_wp2_with fail
      refine (HFU.out wr).mono ?_
      rintro e w5 ⟨v5, rfl, hown5, hb5⟩
      obtain ⟨A5, c5, rfl, _⟩ := hown5.bs HFB.out
      rw [HFL.out] at hown5 ⊢
      have HA6 := Lib.hid (HA5.out.trans (hb5.mono HA5.out.size))
      have HB5 := Lib.hid (HB.out.trans (HA6.out.mono HB.out.size))
      have HI5 : Hid (EnI w5 w.heap.size W0.heap.size A5 c5 fc) := Lib.hid ⟨.inr ⟨by rw [HFL.out]; exact hown5.base (Nat.le_trans HB.out.size HA5.out.size), HFB.out⟩, own_zero hown5⟩
      have HBM5 := Lib.hid (HBM.out.below HSZ.out HB.out.size HA6.out)
      clear hown5 hb5 HC1
      go_wp2_with (at_builtin; refine wp_appBM w5 rfl (.tmp 17) (.tmp 21) rfl w.heap.size W0.heap.size HSZ.out HB5.out.size (.slice A m c) A5 c5 LL fc 256 HFL.out rfl HBM5.out (by rw [HLN.out]; omega) _ rfl rfl HI5.out ?_; intro v6 w6 hbm6 hb6; obtain ⟨A6, c6, e6⟩ := hbm6.form; rw [List.length_append, HLN.out] at e6; have HBM6 := Lib.hid hbm6; have HB6 := Lib.hid (HB5.out.trans hb6); subst e6; clear hbm6 hb6)
      go_roundw
      case rel => exact ⟨j + 1, by have := HM.out; have := HNJ.out; omega, by rw [HRP.out]; exact HBM6.out, HB6.out⟩
      case measure => simp [lenVal]; omega
    · have hmt2 : m = t + 1 := by omega
      have HF : Hid (FilTo w Ls fc t (.returned (.slice A m c)) wr) := Lib.hid (by
        obtain ⟨g2, cap2, e, hblk, hcp, hcq, hgn, hcur⟩ := HBM.out.at_ HSZ.out HB.out.size (by rw [HLN.out]; omega)
        rw [HLN.out] at e
        rw [e, hmt2]
        exact ⟨g2, cap2, rfl, by rw [← HEND.out hmt2]; exact hblk, HB0.out.trans (HB.out.mono HB0.out.size), by rw [HLN.out] at hcp; omega, hcq, Nat.le_trans HSZ.out hgn, hcur, W0.heap.size, HSZ.out, hgn, by rw [← HEND.out hmt2, ← hmt2, ← e]; exact HBM.out⟩)
      clear hmt2
      go_wp2
      go_ret
      exact HF.out
end Go.Proofs.Ytnalebocfbbpdaa
