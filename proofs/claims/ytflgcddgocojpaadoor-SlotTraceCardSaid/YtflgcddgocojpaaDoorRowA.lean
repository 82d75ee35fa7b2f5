/-
  Rows of fields: what Clone, Of, fail and take answer.
-/
import Derived.Test.YtflgcddgocojpaaDoorWordC
namespace Go.Proofs.YtflgcddgocojpaaDoor
open Go.RowKit
set_option linter.unusedVariables false
theorem eval_one {l : List Nat} : ∀ u ∈ bvals l, u.oneCell' = true := by
  intro v hv
  obtain ⟨x, _, rfl⟩ := List.mem_map.mp hv
  rfl
set_option maxRecDepth 100000 in
theorem wp_app_all {ops : Array Oper} {rest : List Oper} {o : Oper} {a : Act} {Q : Exit → Act → World → Prop} (W : World) (hgd : o.guard = none) (s x : Operand)
    (ho : o.op = .call { callee := .builtin .append, args := #[s, x], argTypes := #[23, 23] })
    (ad : Addr) (n c : Nat) (l : List Nat) (hs : a.eval s = .slice (some ⟨W.heap.size, 0, none⟩) 0 0) (hx : a.eval x = .slice (some ad) n c)
    (hbs : BS W W.heap.size (some ad) n c l) (hn : n < 1000000000)
    (h : ∀ v' w', Own w' W.heap.size v' l → Below W.heap.size W w' → wpList Tryd.prog ops Q rest (a.put o.dst v') w') :
    wpList Tryd.prog ops Q (o :: rest) a (W.alloc (.cells #[] 5)) := by
  obtain ⟨i0, hi, hz0, hz1, hz2⟩ := info_parts info_u8
  have hown : (W.alloc (.cells #[] 5)).ownsRow W.heap.size 5 1 (.slice (some ⟨W.heap.size, 0, none⟩) 0 0) 0 [] := World.ownsRow_made W #[] 0 (Nat.le_refl _) (by unfold maxLen; omega) rfl
  have hl := hbs.len
  refine wpList_append_own _ hgd s x 23 ho W.heap.size 5 i0 (.int .u8 0) 1 1 Tryd.underlying23 hi hz0 hz1 hz2 rfl (by decide) _ 0 [] hs hown ad n c (bvals l) hx (by simp [bvals, hl]) ?_ eval_one (by unfold maxLen; omega) (by omega) (by simp) ?_
  · intro j u hj
    have hjl : j < l.length := by
      rcases Nat.lt_or_ge j l.length with h1 | h1
      · exact h1
      · rw [List.getElem?_eq_none (by simp [bvals]; omega)] at hj; cases hj
    obtain ⟨b, off, e, hb, hc⟩ := hbs.at_ (by omega)
    obtain rfl := Option.some.inj e
    have e2 : (bvals l)[j]? = some (.int .u8 ((l.getD j 0 : Nat) : Int)) := by simp [bvals, List.getElem?_map, List.getElem?_eq_getElem hjl, List.getD]
    rw [e2] at hj
    rw [Go.WideShapes.add_plain, World.cell?_alloc_lt _ _ _ hb, hc j (by omega), hj]
  · intro v' w1 hown' hg _
    refine h v' w1 ?_ ?_
    · unfold Own
      rw [hl]
      simpa using hown'
    · exact ((Below.refl W.heap.size W).alloc (Nat.le_refl _) _).grown hg (by simp) (fun k hk => by simp [Value.ownBlock] at hk; omega)
theorem eql_nil (W : World) (a : Option Addr) (n c : Nat) : (binOp .eql 23 (.slice a n c) (.slice none 0 0)).run Tryd.prog W = .ok (.bool a.isNone) W := by
  simp [binOp, run_equal_slice_nil W 23 5 a n c Tryd.underlying23]
set_option maxHeartbeats 400000 in
theorem bclone_any (A : Option Addr) (n c : Nat) (l : List Nat) (w : World) (hs : BS w w.heap.size A n c l) (hn : n ≤ 1000) :
    Calls Tryd.prog 46 #[.slice A n c] w (Gives w l) := by
  have hlen := hs.len
  have hby := hs.byte
  have hq := eql_nil
  rcases A with _ | ad
  · have hl : l = [] := by
      rcases Nat.eq_zero_or_pos n with h0 | h0
      · exact List.eq_nil_of_length_eq_zero (by omega)
      · obtain ⟨b, o, e, _⟩ := hs.at_ h0; cases e
    subst hl
    have HG : Gives w [] (.returned (.slice none 0 0)) w := ⟨none, 0, rfl, Below.refl _ _, BS.nil _ _⟩
    have H := Lib.hid HG
    clear HG hs hlen hby
    go_enter Tryd.func46, Tryd.ntmps46
    go_wp2
    go_ret
    exact H.out
  · have HS := Lib.hid hs
    have HL := Lib.hid hlen
    have HBY := Lib.hid hby
    clear hs hlen hby
    go_enter Tryd.func46, Tryd.ntmps46
    go_wp2_with (at_builtin; refine wp_app_all _ rfl _ _ rfl ad n c l rfl rfl HS.out (by omega) ?_; intro v' w1 hown1 hb1)
    have HG : Gives w l (.returned v') w1 := by
      obtain ⟨A, c, rfl, hbs⟩ := hown1.bs HBY.out
      exact ⟨A, c, rfl, hb1, hbs⟩
    have H := Lib.hid HG
    clear HG hown1 hb1
    go_ret
    exact H.out
/-- block g is a row of which l is left, and what was wrong first is e -/
def RowSt (W : World) (g : Nat) (t : TypeId) (l : List Nat) (e : Int) : Prop :=
  ∃ A c, W.heap[g]? = some (.cells #[.slice A l.length c, .int .i64 e] t (0, 0)) ∧ BS W g A l.length c l
theorem RowSt.lt {W : World} {g : Nat} {t : TypeId} {l : List Nat} {e : Int} (h : RowSt W g t l e) : g < W.heap.size := by
  obtain ⟨A, c, h1, _⟩ := h
  exact blk_lt h1
theorem set2 (x0 x1 a b : Value) : (#[x0, x1].setIfInBounds 0 a).setIfInBounds 1 b = #[a, b] := by simp
theorem fail_close {g : Nat} (e : Int) {x0 x1 : Value} {t : TypeId} {W : World} (hg : W.heap[g]? = some (.cells #[x0, x1] t (0, 0))) :
    ((W.setCell ⟨g, 0, none⟩ (.slice none 0 0)).setCell ⟨g, 1, none⟩ (.int .i64 e)).heap[g]? = some (.cells #[.slice none 0 0, .int .i64 e] t (0, 0)) ∧
      W.grownBy ((W.setCell ⟨g, 0, none⟩ (.slice none 0 0)).setCell ⟨g, 1, none⟩ (.int .i64 e)) (some g) := by
  have h1 := blk_set hg 0 (Value.slice none 0 0)
  have h2 := blk_set h1 1 (Value.int IntKind.i64 e)
  rw [set2] at h2
  have k1 : W.grownBy (W.setCell ⟨g, 0, none⟩ (Value.slice none 0 0)) (some g) := only_set (p := ⟨g, 0, none⟩) (World.grownBy.refl W (some g)) (.inl rfl) _
  exact ⟨h2, only_set (p := ⟨g, 1, none⟩) k1 (.inl rfl) _⟩
end Go.Proofs.YtflgcddgocojpaaDoor
