/-
  Texts are held against one another; a row of texts is looked through; a text is copied.
-/
import Derived.Test.YtoclelpmampikaaGreatBkA
import Derived.Test.YtoclelpmampikaaGreatStr
import Derived.Lib.Hide
namespace Go.Proofs.YtoclelpmampikaaGreat
open Go.RowKit Go
set_option linter.unusedVariables false
set_option linter.unusedSimpArgs false
section
variable {w : World} {B n c : Nat} {A : Option Addr} {l : List Nat}
theorem bk_conv (h : BS w B A n c l) : (convert 89 9 (.slice A n c)).run Tryz.prog w = .ok (.string (str l)) w := h.conv 89 5 9 Tryz.underlying89 Tryz.underlying5 Tryz.underlying9
end
set_option maxHeartbeats 400000 in
theorem bk_equal (A A2 : Option Addr) (n c n2 c2 B B2 : Nat) (l l2 : List Nat) (w : World) (hs : BS w B A n c l) (hs2 : BS w B2 A2 n2 c2 l2) :
    Calls Tryz.prog 79 #[.slice A n c, .slice A2 n2 c2] w fun e w' => e = .returned (.bool (decide (l = l2))) ∧ w = w' := by
  have h1 := bk_conv hs
  have h2 := bk_conv hs2
  have HQ := Lib.hid (str_toList hs.byte hs2.byte)
  clear hs hs2
  go_enter Tryz.func79, Tryz.ntmps79
  go_wp2
  go_ret
  exact ⟨ret_bool HQ.out, rfl⟩
set_option maxHeartbeats 400000 in
theorem bk_meet1 (A A2 : Option Addr) (n c n2 c2 B B2 gt : Nat) (l l2 : List Nat) (w : World) (hs : BS w B A n c l) (hs2 : BS w B2 A2 n2 c2 l2) (hc : w.cell? ⟨gt, 0, none⟩ = some (.slice A2 n2 c2)) :
    Calls Tryz.prog 78 #[.slice A n c, .pointer (some ⟨gt, 0, none⟩)] w fun e w' => e = .returned (.bool (decide (l = l2))) ∧ w = w' := by
  have HE := Lib.hid (bk_equal A A2 n c n2 c2 B B2 l l2 w hs hs2)
  clear hs hs2
  go_enter Tryz.func78, Tryz.ntmps78
  go_wp2_with fail
  refine HE.out.mono ?_
  rintro e w' ⟨rfl, rfl⟩
  go_wp2
  go_ret
  exact ⟨rfl, rfl⟩
def BIdx (w : World) (L : List (List Nat)) (l : List Nat) (e : Ending) (w' : World) : Prop := (∃ k : Int, e = .returned (.int .i64 k) ∧ decide (0 ≤ k) = decide (l ∈ L)) ∧ w = w'
theorem bidx_yes {w : World} {L : List (List Nat)} {l : List Nat} {k : Nat} (hk : k < L.length) (h : L.getD k [] = l) : BIdx w L l (.returned (.int .i64 (k : Int))) w := by
  refine ⟨⟨_, rfl, ?_⟩, rfl⟩
  rw [decide_eq_true (by omega : (0 : Int) ≤ (k : Int)), decide_eq_true]
  rw [← h]
  have e : L.getD k [] = L[k] := by simp [List.getD, List.getElem?_eq_getElem hk]
  rw [e]; exact List.getElem_mem hk
theorem bidx_no {w : World} {L : List (List Nat)} {l : List Nat} (h : ∀ j, j < L.length → L.getD j [] ≠ l) : BIdx w L l (.returned (.int .i64 (-1))) w := by
  refine ⟨⟨_, rfl, ?_⟩, rfl⟩
  rw [decide_eq_false (by omega : ¬ (0 : Int) ≤ -1), decide_eq_false]
  intro hm
  obtain ⟨j, hj, e⟩ := List.getElem_of_mem hm
  exact h j hj (by simp [List.getD, List.getElem?_eq_getElem hj, e])
set_option maxHeartbeats 1000000 in
theorem bk_index (v : Value) (S : Nat → Prop) (L : List (List Nat)) (gt A2 n2 c2) (B2 : Nat) (l : List Nat) (w : World) (h : TR w S v L) (hl : L.length ≤ 1000000) (hs2 : BS w B2 A2 n2 c2 l) (hc : w.cell? ⟨gt, 0, none⟩ = some (.slice A2 n2 c2)) :
    Calls Tryz.prog 93 #[v, .func (Fn.func 78) #[] #[.pointer (some ⟨gt, 0, none⟩)]] w (BIdx w L l) := by
  by_cases h0 : L.length = 0
  · obtain rfl := List.length_eq_zero_iff.mp h0
    obtain ⟨A, c, rfl⟩ := h.empty
    have HN : Hid (BIdx w [] l (.returned (.int .i64 (-1))) w) := Lib.hid (bidx_no (fun j hj => by simp at hj))
    clear h h0 hs2 hc hl
    go_enter Tryz.func93, Tryz.ntmps93
    go_wp2
    go_loop [8] (fun i => i = .int .i64 0) (fun i => 0)
    case atStart => rfl
    case round =>
      subst hrel
      go_wp2
      go_ret
      exact HN.out
  · obtain ⟨g, cap, rfl, hcap, hg, hat⟩ := h.at_ (by omega)
    have HA := Lib.hid hat
    have HM := Lib.hid (fun A n c B l1 (hs : BS w B A n c l1) => bk_meet1 A A2 n c n2 c2 B B2 gt l1 l w hs hs2 hc)
    have HY := Lib.hid (fun k hk h => bidx_yes (w := w) (L := L) (l := l) (k := k) hk h)
    have HN := Lib.hid (fun h => bidx_no (w := w) (L := L) (l := l) h)
    clear h hat hs2 hc
    go_enter Tryz.func93, Tryz.ntmps93
    go_wp2
    go_loop [8] (fun i => ∃ k : Nat, i = .int .i64 (k : Int) ∧ k ≤ L.length ∧ ∀ j, j < k → L.getD j [] ≠ l) (fun i => (L.length - intOf i).toNat)
    case atStart => exact ⟨0, rfl, by omega, fun j hj => by omega⟩
    case round =>
      obtain ⟨k, rfl, hk, hall⟩ := hrel
      have HALL := Lib.hid hall
      clear hall
      by_cases hlt : k < L.length
      · obtain ⟨x, k1, k2⟩ := HA.out k hlt
        obtain ⟨A, c, rfl, k3⟩ := k2.bs
        clear k2
        have HQ := Lib.hid (HM.out _ _ _ _ _ k3)
        clear k3
        obtain ⟨m, hm⟩ : ∃ m, m = (L.getD k []).length := ⟨_, rfl⟩
        rw [← hm] at k1 HQ
        clear hm
        by_cases he : L.getD k [] = l
        · have HE : Hid (decide (L.getD k [] = l) = true) := Lib.hid (decide_eq_true he)
          have HR := Lib.hid (HY.out k hlt he)
          clear he
          rw [HE.out] at HQ
          go_wp2_with fail
          refine HQ.out.mono ?_
          rintro e w' ⟨rfl, rfl⟩
          go_wp2
          go_ret
          exact HR.out
        · have HE : Hid (decide (L.getD k [] = l) = false) := Lib.hid (decide_eq_false he)
          have HR : Hid (∀ j, j < k + 1 → L.getD j [] ≠ l) := Lib.hid (fun j hj => by
            rcases Nat.lt_or_ge j k with h1 | h1
            · exact HALL.out j h1
            · obtain rfl : j = k := by omega
              exact he)
          clear he
          rw [HE.out] at HQ
          go_wp2_with fail
          refine HQ.out.mono ?_
          rintro e w' ⟨rfl, rfl⟩
          go_wp2
          go_round
          case rel => exact ⟨k + 1, rfl, by omega, HR.out⟩
          case measure => simp [intOf]; omega
      · obtain rfl : k = L.length := by omega
        have HR := Lib.hid (HN.out HALL.out)
        go_wp2
        go_ret
        exact HR.out
set_option maxHeartbeats 1000000 in
theorem bk_contains (v : Value) (S : Nat → Prop) (L : List (List Nat)) (gt A2 n2 c2) (B2 : Nat) (l : List Nat) (w : World) (h : TR w S v L) (hl : L.length ≤ 1000000) (hs2 : BS w B2 A2 n2 c2 l) (hc : w.cell? ⟨gt, 0, none⟩ = some (.slice A2 n2 c2)) :
    Calls Tryz.prog 77 #[v, .func (Fn.func 78) #[] #[.pointer (some ⟨gt, 0, none⟩)]] w fun e w' => e = .returned (.bool (decide (l ∈ L))) ∧ w = w' := by
  have HI := Lib.hid (bk_index v S L gt A2 n2 c2 B2 l w h hl hs2 hc)
  clear h hs2 hc
  go_enter Tryz.func77, Tryz.ntmps77
  go_wp2_with fail
  refine HI.out.mono ?_
  rintro e w' ⟨⟨k, rfl, hk⟩, rfl⟩
  have HK := Lib.hid hk
  clear hk
  go_wp2
  go_ret
  exact ⟨ret_bool HK.out, rfl⟩
/-! a text is copied -/
set_option maxRecDepth 100000 in
theorem bk_app_all {ops : Array Oper} {rest : List Oper} {o : Oper} {a : Act} {Q : Exit → Act → World → Prop} (W : World) (hgd : o.guard = none) (s x : Operand)
    (ho : o.op = .call { callee := .builtin .append, args := #[s, x], argTypes := #[89, 89] })
    (ad : Addr) (n c : Nat) (l : List Nat) (hs : a.eval s = .slice (some ⟨W.heap.size, 0, none⟩) 0 0) (hx : a.eval x = .slice (some ad) n c)
    (hbs : BS W W.heap.size (some ad) n c l) (hn : n < 1000000000)
    (h : ∀ v' w', Own w' W.heap.size v' l → Below W.heap.size W w' → wpList Tryz.prog ops Q rest (a.put o.dst v') w') :
    wpList Tryz.prog ops Q (o :: rest) a (W.alloc (.cells #[] 5)) := by
  obtain ⟨i0, hi, hz0, hz1, hz2⟩ := info_parts info_u8
  have hown : (W.alloc (.cells #[] 5)).ownsRow W.heap.size 5 1 (.slice (some ⟨W.heap.size, 0, none⟩) 0 0) 0 [] := World.ownsRow_made W #[] 0 (Nat.le_refl _) (by unfold maxLen; omega) rfl
  have hl := hbs.len
  refine wpList_append_own _ hgd s x 89 ho W.heap.size 5 i0 (.int .u8 0) 1 1 Tryz.underlying89 hi hz0 hz1 hz2 rfl (by decide) _ 0 [] hs hown ad n c (bvals l) hx (by simp [bvals, hl]) ?_ (bvals_one l) (by unfold maxLen; omega) (by omega) (by simp) ?_
  · intro j u hj
    have hjl : j < l.length := by
      rcases Nat.lt_or_ge j l.length with h1 | h1
      · exact h1
      · rw [List.getElem?_eq_none (by simp [bvals]; omega)] at hj; cases hj
    obtain ⟨b, off, e, hb, hc⟩ := hbs.at_ (by omega)
    obtain rfl := Option.some.inj e
    have e2 : (bvals l)[j]? = some (.int .u8 ((l.getD j 0 : Nat) : Int)) := by simp [bvals, List.getElem?_map, List.getElem?_eq_getElem hjl, List.getD]
    rw [e2] at hj
    rw [Go.WideShapes.add_plain, World.cell?_alloc_lt _ _ _ hb, hc j (by omega), hj]
  · intro v' w1 hown' hg _
    refine h v' w1 ?_ ?_
    · unfold Own
      rw [hl]
      simpa using hown'
    · exact ((Below.refl W.heap.size W).alloc (Nat.le_refl _) _).grown hg (by simp) (fun k hk => by simp [Value.ownBlock] at hk; omega)
theorem bk_eql_nil (W : World) (a : Option Addr) (n c : Nat) : (binOp .eql 89 (.slice a n c) (.slice none 0 0)).run Tryz.prog W = .ok (.bool a.isNone) W := by
  simp [binOp, run_equal_slice_nil W 89 5 a n c Tryz.underlying89]
end Go.Proofs.YtoclelpmampikaaGreat
