/-
  Rows of fields: what the document's own Take answers; that it and word's take go together.
-/
import Derived.Test.YthmjncfjaopfcaaRowB
namespace Go.Proofs.Ythmjncfjaopfcaa
open Go.RowKit
set_option linter.unusedVariables false
def refS (l : List Nat) (e : Int) (n : Int) (ok : Bool) : List Nat × List Nat × Int :=
  if e ≠ 0 then ([], l, e) else if ok = false ∨ n < 0 then ([], l, 1) else if (l.length : Int) < n then ([], l, 3) else (l.take n.toNat, l.drop n.toNat, 0)
/-- block g is a row of the document's, of which l is left; the bytes lie below block B -/
def RowB (W : World) (g B : Nat) (l : List Nat) (e : Int) : Prop :=
  ∃ A c, W.heap[g]? = some (.cells #[.slice A l.length c, .int .i64 e] 30 (0, 0)) ∧ BS W B A l.length c l
theorem RowB.lt {W : World} {g B : Nat} {l : List Nat} {e : Int} (h : RowB W g B l e) : g < W.heap.size := by
  obtain ⟨A, c, h1, _⟩ := h
  exact blk_lt h1
theorem RowB.only {W W' : World} {g g' B : Nat} {l : List Nat} {e : Int} (h : RowB W g B l e) (hb : W.grownBy W' (some g')) (hne : g ≠ g') (h1 : B ≤ g') (h2 : B ≤ W.heap.size) : RowB W' g B l e := by
  have hlt := h.lt
  obtain ⟨A, c, k1, k2⟩ := h
  exact ⟨A, c, (hb.block g hlt (fun e => by injection e with e; exact hne e)).trans k1, k2.keep fun p hp => World.cell?_of_block (hb.block p.block (by omega) (fun e => by injection e with e; omega))⟩
theorem RowB.dr {W : World} {g B : Nat} {l : List Nat} {e : Int} (h : RowB W g B l e) : RowB W.drew g B l e := h
def RefTo (W : World) (g B : Nat) (r : List Nat × List Nat × Int) (E : Ending) (W' : World) : Prop :=
  ∃ A c, E = .returned (.slice A r.1.length c) ∧ BS W' B A r.1.length c r.1 ∧ RowB W' g B r.2.1 r.2.2 ∧ W.grownBy W' (some g)
theorem set1 (x0 x1 a : Value) : #[x0, x1].setIfInBounds 1 a = #[x0, a] := by simp
theorem ref_fail {W : World} {g B : Nat} (hB : B ≤ g) {l : List Nat} {A : Option Addr} {c : Nat} (e : Int) (hg : W.heap[g]? = some (.cells #[.slice A l.length c, .int .i64 0] 30 (0, 0))) (hs : BS W B A l.length c l) :
    RefTo W g B ([], l, e) (.returned (.slice none 0 0)) (W.setCell ⟨g, 1, none⟩ (.int .i64 e)) := by
  have h1 := blk_set hg 1 (Value.int IntKind.i64 e)
  rw [set1] at h1
  have kp : ∀ p : Addr, p.block < B → (W.setCell ⟨g, 1, none⟩ (.int .i64 e)).cell? p = W.cell? p := fun p hp =>
    World.cell?_setCell_other W ⟨g, 1, none⟩ p _ (fun e => by subst e; exact absurd hp (by show ¬ g < B; omega))
  exact ⟨none, 0, rfl, BS.nil _ _, ⟨A, c, h1, hs.keep kp⟩, only_set (p := ⟨g, 1, none⟩) (World.grownBy.refl W (some g)) (.inl rfl) _⟩
theorem ref_ok {W : World} {g B : Nat} (hB : B ≤ g) {l : List Nat} {A : Option Addr} {n c k : Nat} (hg : W.heap[g]? = some (.cells #[.slice A n c, .int .i64 0] 30 (0, 0))) (hs : BS W B A n c l) (hk : k ≤ n) :
    RefTo W g B (l.take k, l.drop k, 0) (.returned (.slice A k c)) (W.setCell ⟨g, 0, none⟩ (.slice (if c = k then A else A.map (·.add k)) (n - k) (c - k))) := by
  have h1 := blk_set hg 0 (Value.slice (if c = k then A else A.map (·.add k)) (n - k) (c - k))
  rw [set0] at h1
  have kp : ∀ p : Addr, p.block < B → (W.setCell ⟨g, 0, none⟩ (.slice (if c = k then A else A.map (·.add k)) (n - k) (c - k))).cell? p = W.cell? p := fun p hp =>
    World.cell?_setCell_other W ⟨g, 0, none⟩ p _ (fun e => by subst e; exact absurd hp (by show ¬ g < B; omega))
  have t1 := (hs.take hk).keep kp
  have t2 := (hs.drop hk).keep kp
  have e1 : (l.take k).length = k := by rw [List.length_take, hs.len]; omega
  have e2 : (l.drop k).length = n - k := by rw [List.length_drop, hs.len]
  refine ⟨A, c, by rw [e1], by rw [e1]; exact t1, ⟨(if c = k then A else A.map (·.add k)), c - k, ?_, ?_⟩, only_set (p := ⟨g, 0, none⟩) (World.grownBy.refl W (some g)) (.inl rfl) _⟩
  · rw [h1, e2]
  · rw [e2]; exact t2
set_option maxHeartbeats 1000000 in
theorem reftake_any (g : Nat) (l : List Nat) (e n : Int) (ok : Bool) (W : World) (B : Nat) (hB : B ≤ g) (hst : RowB W g B l e) :
    Calls Try.prog 12 #[.pointer (some ⟨g, 0, none⟩), .int .i64 n, .bool ok] W (RefTo W g B (refS l e n ok)) := by
  obtain ⟨A, c, hg, hs⟩ := hst
  have c0 : W.cell? ⟨g, 0, none⟩ = some (.slice A l.length c) := blk_cell hg 0
  have c1 : W.cell? ⟨g, 1, none⟩ = some (.int .i64 e) := blk_cell hg 1
  have f0 := blk_free hg 0
  have f1 := blk_free hg 1
  by_cases he : e = 0
  · subst he
    cases ok
    · have HE : Hid (refS l 0 n false = ([], l, 1)) := Lib.hid (by simp [refS])
      have H := Lib.hid (ref_fail hB 1 hg hs)
      clear hs hg
      go_enter Try.func12, Try.ntmps12
      go_wp2
      go_ret
      rw [HE.out]; exact H.out
    · by_cases hn : n < 0
      · have HE : Hid (refS l 0 n true = ([], l, 1)) := Lib.hid (by simp [refS, hn])
        have H := Lib.hid (ref_fail hB 1 hg hs)
        clear hs hg
        go_enter Try.func12, Try.ntmps12
        go_wp2
        go_ret
        rw [HE.out]; exact H.out
      · by_cases hl : (l.length : Int) < n
        · have HE : Hid (refS l 0 n true = ([], l, 3)) := Lib.hid (by simp [refS, hl, hn])
          have H := Lib.hid (ref_fail hB 3 hg hs)
          have hn0 : 0 ≤ n := by omega
          clear hs hg hn
          go_enter Try.func12, Try.ntmps12
          go_wp2
          go_ret
          rw [HE.out]; exact H.out
        · obtain ⟨k, rfl⟩ : ∃ k : Nat, n = (k : Int) := ⟨n.toNat, by omega⟩
          have HE : Hid (refS l 0 (k : Int) true = (l.take k, l.drop k, 0)) := Lib.hid (by simp [refS, hl, hn])
          have h0 := ref_ok hB hg hs (k := k) (by omega)
          have hcap := hs.cap
          have hkl : k ≤ l.length := by omega
          clear hn
          by_cases hck : c = k
          · rw [if_pos hck] at h0
            subst hck
            have ez : l.length - c = 0 := by omega
            rw [Nat.sub_self, ez] at h0
            clear ez
            have H := Lib.hid h0
            clear hg hs h0
            go_enter Try.func12, Try.ntmps12
            go_wp2
            go_ret
            rw [HE.out]; exact H.out
          · rw [if_neg hck] at h0
            have H := Lib.hid h0
            clear hg hs h0
            go_enter Try.func12, Try.ntmps12
            go_wp2
            go_ret
            rw [HE.out]; exact H.out
  · have HE : Hid (refS l e n ok = ([], l, e)) := Lib.hid (by simp [refS, he])
    have H : Hid (RefTo W g B ([], l, e) (.returned (.slice none 0 0)) W) := Lib.hid ⟨none, 0, rfl, BS.nil _ _, ⟨A, c, hg, hs⟩, World.grownBy.refl W _⟩
    have hne : (e != 0) = true := by rw [bne_iff_ne]; exact he
    clear hg hs he
    go_enter Try.func12, Try.ntmps12
    go_wp2
    go_ret
    rw [HE.out]; exact H.out
/-- the two rows go together: one error, and as long as there is none the same bytes are left -/
def Inv (l : List Nat) (e : Int) (l' : List Nat) : Prop := (e = 0 → l' = l) ∧ (e ≠ 0 → l = [])
theorem Inv.step {l l' : List Nat} {e n : Int} {may ok : Bool} (h : Inv l e l') (hm : may = true ↔ (ok = true ∧ 0 ≤ n)) :
    (refS l' e n ok).1 = (takeS l e n may).1 ∧ (refS l' e n ok).2.2 = (takeS l e n may).2.2 ∧ Inv (takeS l e n may).2.1 (takeS l e n may).2.2 (refS l' e n ok).2.1 := by
  by_cases he : e = 0
  · have hl := h.1 he
    subst hl he
    by_cases hmm : may = true
    · have hk := hm.mp hmm
      have hn : ¬ n < 0 := by omega
      by_cases hl : (l'.length : Int) < n
      · have e1 : refS l' 0 n ok = ([], l', 3) := by simp [refS, hk.1, hn, hl]
        have e2 : takeS l' 0 n may = ([], [], 3) := by simp [takeS, hmm, hl]
        rw [e1, e2]; exact ⟨rfl, rfl, (fun h => by simp at h), fun _ => rfl⟩
      · have e1 : refS l' 0 n ok = (l'.take n.toNat, l'.drop n.toNat, 0) := by simp [refS, hk.1, hn, hl]
        have e2 : takeS l' 0 n may = (l'.take n.toNat, l'.drop n.toNat, 0) := by simp [takeS, hmm, hl]
        rw [e1, e2]; exact ⟨rfl, rfl, fun _ => rfl, fun h => absurd rfl h⟩
    · have hmf : may = false := by simpa using hmm
      have hk : ok = false ∨ n < 0 := by
        rcases Bool.eq_false_or_eq_true ok with h1 | h1
        · right
          rcases Int.lt_or_le n 0 with h2 | h2
          · exact h2
          · exact absurd (hm.mpr ⟨h1, h2⟩) hmm
        · exact .inl h1
      have e1 : refS l' 0 n ok = ([], l', 1) := by
        unfold refS
        rw [if_neg (by simp), if_pos hk]
      have e2 : takeS l' 0 n may = ([], [], 1) := by simp [takeS, hmf]
      rw [e1, e2]; exact ⟨rfl, rfl, (fun h => by simp at h), fun _ => rfl⟩
  · have hl := h.2 he
    unfold refS takeS
    rw [if_pos he, if_pos he]
    exact ⟨rfl, rfl, fun h1 => absurd h1 he, fun _ => hl⟩
/-- how many are left, by the document -/
theorem Inv.left {l l' : List Nat} {e : Int} (h : Inv l e l') : (l.length : Int) = if e ≠ 0 then 0 else (l'.length : Int) := by
  by_cases he : e = 0
  · rw [if_neg (by simpa using he), h.1 he]
  · rw [if_pos he, h.2 he]; rfl
end Go.Proofs.Ythmjncfjaopfcaa
