/-
  What the call itself appended: more facts (behind word's texts).
-/
import Derived.Test.YtcaogiaoabdkdaaDoorZWordB
import Derived.OwnWalk
import Derived.Laws.AppendOwnNone
namespace Go.Proofs.YtcaogiaoabdkdaaDoor
open Go.RowKit
set_option linter.unusedVariables false
theorem bvals_len (l : List Nat) : (bvals l).length = l.length := by simp [bvals]
theorem bvals_one (l : List Nat) : ∀ v ∈ bvals l, v.oneCell' = true := by
  intro v hv
  obtain ⟨x, _, rfl⟩ := List.mem_map.mp hv
  rfl
theorem Own.blk {w : World} {B g n cap : Nat} {cur : Array Value} {l : List Nat} (hg : B ≤ g) (hh : w.heap[g]? = some (.cells cur 5 (0, 0))) (hl : l.length = n) (hn : n ≤ cap) (hm : cap ≤ maxLen) (hs : cur.size = cap) (ht : cur.toList.take n = bvals l) :
    Own w B (.slice (some ⟨g, 0, none⟩) n cap) l := by
  subst hl
  exact ⟨by rw [bvals_len, Nat.mul_one], .inr ⟨g, cap, cur, rfl, hg, hh, hn, hm, by rw [Nat.mul_one]; exact hs, by rw [Nat.mul_one]; exact ht⟩⟩
theorem Own.alloc {w : World} {B : Nat} {v : Value} {l : List Nat} (h : Own w B v l) (o : Obj) : Own (w.alloc o) B v l := World.ownsRow.alloc h o
theorem Own.keep {w w' : World} {B : Nat} {v : Value} {l : List Nat} (h : Own w B v l) (hk : ∀ g, v.ownBlock = some g → w'.heap[g]? = w.heap[g]?) : Own w' B v l := by
  obtain ⟨h1, h2⟩ := h
  refine ⟨h1, ?_⟩
  rcases h2 with h2 | ⟨g, cap, cur, hv, hg, hh, hr⟩
  · exact .inl h2
  · exact .inr ⟨g, cap, cur, hv, hg, (hk g (by rw [hv]; rfl)).trans hh, hr⟩
theorem Own.lt {w : World} {B : Nat} {v : Value} {l : List Nat} (h : Own w B v l) {g : Nat} (hg : v.ownBlock = some g) : B ≤ g ∧ g < w.heap.size := World.ownsRow.lt h g hg
theorem Own.below {w w' : World} {B : Nat} {v : Value} {l : List Nat} (h : Own w B v l) (hb : Below w.heap.size w w') : Own w' B v l := h.keep fun g hg => hb.block g (h.lt hg).2
/-- a slice of bytes is appended -/
theorem wp_apps {ops : Array Oper} {rest : List Oper} {o : Oper} {a : Act} {Q : Exit → Act → World → Prop} (W : World) (hgd : o.guard = none) (s x : Operand)
    (ho : o.op = .call { callee := .builtin .append, args := #[s, x], argTypes := #[24, 24] })
    (B : Nat) (v : Value) (l : List Nat) (hs : a.eval s = v) (hown : Own W B v l)
    (B' : Nat) (A : Option Addr) (m c : Nat) (l' : List Nat) (hx : a.eval x = .slice A m c) (hr : BS W B' A m c l') (hA : A = none → c = 0) (hn : l.length + m < 1000000000) (hB : B ≤ W.heap.size)
    (h : ∀ v' w', Own w' B v' (l ++ l') → Below B W w' → wpList Tryd.prog ops Q rest (a.put o.dst v') w') :
    wpList Tryd.prog ops Q (o :: rest) a W := by
  obtain ⟨i0, hi, hz0, hz1, hz2⟩ := info_parts info_u8
  have hm := hr.len
  rcases A with _ | ad
  · have h0 := hA rfl
    have h1 := hr.cap
    have hm0 : m = 0 := by omega
    subst hm0 h0
    obtain rfl := List.length_eq_zero_iff.mp hm
    refine wpList_append_own_none hgd s x 24 ho B 5 i0 1 Tryd.underlying24 hi v l.length (bvals l) hs hown hx ?_
    exact h v W (by rw [List.append_nil]; exact hown) (Below.refl _ _)
  · refine wpList_append_own _ hgd s x 24 ho B 5 i0 (.int .u8 0) 1 1 Tryd.underlying24 hi hz0 hz1 hz2 rfl (by decide) v l.length (bvals l) hs hown ad m c
      (bvals l') hx (by rw [bvals_len, hm, Nat.mul_one]) ?_ (bvals_one l') (by unfold maxLen; omega) (by omega) hB ?_
    · intro j u hj
      have hjl : j < l'.length := by
        rcases Nat.lt_or_ge j l'.length with h | h
        · exact h
        · rw [List.getElem?_eq_none (by rw [bvals_len]; exact h)] at hj; cases hj
      obtain ⟨b, o, e, _, hc⟩ := hr.at_ (by omega)
      obtain rfl : ad = ⟨b, o, none⟩ := Option.some.inj e
      have h2 := hc j (by omega)
      rw [Go.WideShapes.add_plain, h2, ← hj]
      simp [bvals, List.getElem?_eq_getElem hjl, List.getD]
    · intro v' w1 hown' hg _
      refine h v' w1 ?_ ((Below.refl B W).grown hg hB (fun k hk => (World.ownsRow.lt hown k hk).1))
      have e : bvals (l ++ l') = bvals l ++ bvals l' := by simp [bvals]
      unfold Own
      rw [e, List.length_append, hm]
      exact hown'
theorem Own.gives {w w' : World} {v : Value} {l : List Nat} (h : Own w' w.heap.size v l) (h2 : ∀ i, l.getD i 0 < 256) (hb : Below w.heap.size w w') : Gives w l (.returned v) w' := by
  obtain ⟨A, c, rfl, hbs⟩ := h.bs h2
  exact ⟨A, c, rfl, hb, hbs⟩
/-- .. and the slice lies in a block that was not there -/
def GivesN (w : World) (l : List Nat) (e : Ending) (w' : World) : Prop :=
  ∃ A c, e = .returned (.slice A l.length c) ∧ Below w.heap.size w w' ∧ BS w' w'.heap.size A l.length c l ∧ ∀ ad, A = some ad → w.heap.size ≤ ad.block
theorem GivesN.gives {w w' : World} {l : List Nat} {e : Ending} (h : GivesN w l e w') : Gives w l e w' := by
  obtain ⟨A, c, h1, h2, h3, _⟩ := h
  exact ⟨A, c, h1, h2, h3⟩
theorem Own.givesN {w w' : World} {v : Value} {l : List Nat} (h : Own w' w.heap.size v l) (h2 : ∀ i, l.getD i 0 < 256) (hb : Below w.heap.size w w') : GivesN w l (.returned v) w' := by
  have hlt := fun g (hg : v.ownBlock = some g) => (h.lt hg).1
  obtain ⟨A, c, rfl, hbs⟩ := h.bs h2
  exact ⟨A, c, rfl, hb, hbs, fun ad e => hlt _ (by rw [e]; rfl)⟩
theorem make_cap (n cap : Nat) (hn : n ≤ cap) (hc : cap ≤ 281474976710656) (w : World) :
    (Instr.makeSlice 24 (.int .i64 (n : Int)) (.int .i64 (cap : Int))).run Tryd.prog w = .ok (.slice (some ⟨w.heap.size, 0, none⟩) n cap) (w.alloc (.cells (zeros cap) 5)) := by
  obtain ⟨i, h0, h1, h2, h3⟩ := info_parts info_u8
  have hr := run_make (P := Tryd.prog) w 24 5 i _ Tryd.underlying24 h0 h1 .i64 .i64 n cap (by omega) (by omega) (by rw [h3]; omega) (by omega)
  rw [hr]
  have e1 : madeCells (Value.int IntKind.u8 0).cells ((cap : Int).toNat * i.size) = zeros cap := by
    rw [h2]
    apply Array.toList_inj.mp
    rw [Int.toNat_natCast, Nat.mul_one]
    show (madeCells #[Value.int IntKind.u8 0] cap).toList = _
    rw [toList_madeCells_one]
    simp [zeros]
  rw [e1]
  simp
end Go.Proofs.YtcaogiaoabdkdaaDoor
