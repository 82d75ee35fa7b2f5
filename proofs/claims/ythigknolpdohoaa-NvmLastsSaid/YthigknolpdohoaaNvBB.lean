/-
  A device in the making: acts at any place, pictures that stay.
-/
import Derived.Test.YthigknolpdohoaaNvM
import Derived.Test.YthigknolpdohoaaNvBA
namespace Go.Proofs.Ythigknolpdohoaa
open Go.RowKit Go
set_option linter.unusedVariables false
set_option linter.unusedSimpArgs false
set_option maxRecDepth 100000
section
variable {w W : World} {g b k : Nat} {off : Bool} {ws : List Wd} {z : List (Nat × Obj)}
/-- a store of bytes that came in -/
theorem AwS.put (h : AwS w W z g b false k ws) (hk : k < 16384) (at_ n c : Nat) (A : Option Addr) (l : List Nat) (hn : at_ + n ≤ 128) (hb : BS W w.heap.size A n c l) :
    Calls Try.prog 13 #[.pointer (some ⟨g, 0, none⟩), .int .i64 (at_ : Int), .slice A n c] W fun e w' => e = .returned (.int .i64 0) ∧ AwS w w' z g b false (k + 1) (putW Wd.st at_ l ws) := by
  obtain ⟨av, al, h1, h2, h3, h4, h5, h6⟩ := h
  have hlt := h1.dev.own.lt
  refine (store_M g b 2 2 k at_ n c A l av _ al ws W h1 hk (by omega) (hb.more h2.size) ?_).mono fun e w' hq => aw_acted h1 h2 h3 h4 h5 h6 hq
  intro h0 ad e
  obtain ⟨p, o, e2, hp, _⟩ := hb.at_ h0
  rw [e2] at e
  injection e with e
  subst e
  exact ⟨by show p ≠ g; omega, by show p ≠ b; omega, fun q => by have := (hlt _ q).1; simp at this; omega⟩
theorem AwS.flushAt (h : AwS w W z g b false k ws) (hk : k < 16384) (at_ n : Nat) (hn0 : 0 < n) (hn : at_ + n ≤ 128) :
    Calls Try.prog 14 #[.pointer (some ⟨g, 0, none⟩), .int .i64 (at_ : Int), .int .i64 (n : Int)] W fun e w' => e = .returned (.int .i64 0) ∧ AwS w w' z g b false (k + 1) (turnW (fun _ => Wd.fl) (8 * (at_ / 64)) (8 * ((at_ + n - 1) / 64 + 1)) ws) := by
  obtain ⟨av, al, h1, h2, h3, h4, h5, h6⟩ := h
  exact (flush_M g b 2 2 k at_ n av _ al ws W h1 hk hn0 (by omega)).mono fun e w' hq => aw_acted h1 h2 h3 h4 h5 h6 hq
/-- the power goes, with picks that came in -/
theorem AwS.crashIn (h : AwS w W z g b false k ws) (l : List Nat) (n c : Nat) (A : Option Addr) (hb : BS W w.heap.size A n c l) :
    Calls Try.prog 18 #[.pointer (some ⟨g, 0, none⟩), .slice A n c] W fun e w' => e = .returned (.tuple #[]) ∧ AwS w w' z g b true k (crashW l 2 ws) := by
  obtain ⟨av, al, h1, h2, h3, h4, h5, h6⟩ := h
  refine (crash_M g b 2 2 k n c A l av _ al 0 ws W h1 (by omega) (hb.more h2.size) ?_).mono ?_
  · intro h0 ad e
    obtain ⟨p, o, e2, hp, _⟩ := hb.at_ h0
    rw [e2] at e
    injection e with e
    subst e
    show p ≠ b
    omega
  · rintro e w' ⟨he, hd, ht⟩
    refine ⟨he, av, al, hd, h2.trans (ht.below h2.size (by rintro j (q | q) <;> omega)), h3, h4, h5, fun q o e => ?_⟩
    obtain ⟨a1, a2, a3, a4⟩ := h6 q o e
    exact ⟨a1, a2, a3, (ht.block q (blk_lt' a4) (by rintro (r | r); exact a1 r; exact a2 r)).trans a4⟩
/-- bytes in a block of their own, whatever else turns -/
def Pic (q c : Nat) (o : Obj) (l : List Nat) : Prop := ∀ W : World, W.heap[q]? = some o → BS W W.heap.size (some ⟨q, 0, none⟩) l.length c l
theorem pic_own {B : Nat} {v : Value} {l : List Nat} (ho : Own W B v l) (h0 : 0 < l.length) (h2 : ∀ v ∈ l, v < 256) : ∃ q c o, v = .slice (some ⟨q, 0, none⟩) l.length c ∧ B ≤ q ∧ W.heap[q]? = some o ∧ Pic q c o l := by
  obtain ⟨A, c, hv, hs⟩ := ho.bs (fun i => by
    by_cases hi : i < l.length
    · rw [List.getD_eq_getElem?_getD, List.getElem?_eq_getElem hi]; exact h2 _ (List.getElem_mem hi)
    · rw [List.getD_eq_getElem?_getD, List.getElem?_eq_none (by omega)]; simp)
  subst hv
  have ho2 := ho
  obtain ⟨hl, hr⟩ := ho
  rcases hr with ⟨e, e0⟩ | ⟨g, cap, cur, e, hg, hh, hr⟩
  · exfalso
    injection e with e1 e2 e3
    omega
  injection e with e1 e2 e3
  subst e1
  refine ⟨g, c, _, rfl, hg, hh, fun W' hW' => ?_⟩
  have h3 : Own W' B (.slice (some ⟨g, 0, none⟩) l.length c) l := ho2.keep fun j hj => by
    have : j = g := by simp [Value.ownBlock] at hj; omega
    rw [this, hh, hW']
  obtain ⟨A, c', hv, hs'⟩ := h3.bs (fun i => by
    by_cases hi : i < l.length
    · rw [List.getD_eq_getElem?_getD, List.getElem?_eq_getElem hi]; exact h2 _ (List.getElem_mem hi)
    · rw [List.getD_eq_getElem?_getD, List.getElem?_eq_none (by omega)]; simp)
  injection hv with f1 f2 f3
  subst f1
  subst f3
  exact hs'
theorem OkM.lasts {ws : List Wd} (h : OkM ws) : ∀ v ∈ lastsL ws, v < 256 := fun v hv => by
  unfold lastsL at hv
  obtain ⟨x, hx, hv⟩ := List.mem_flatMap.1 hv
  exact (h x hx).lb _ hv
/-- a picture of the device -/
theorem AwS.shot (h : AwS w W z g b off k ws) : Calls Try.prog 19 #[.pointer (some ⟨g, 0, none⟩)] W fun e w' => ∃ q c o, e = .returned (.slice (some ⟨q, 0, none⟩) 128 c) ∧ Pic q c o (lastsL ws) ∧ (lastsL ws).length = 128 ∧ w.heap.size ≤ q ∧ (∀ p o', (p, o') ∈ z → p ≠ q) ∧ AwS w w' ((q, o) :: z) g b off k ws := by
  have h9 := h
  obtain ⟨av, al, h1, h2, h3, h4, h5, h6⟩ := h
  have hl := lastsL_len h1.mem.1
  rw [h1.len] at hl
  have hl2 : (lastsL ws).length = 128 := by omega
  refine (image_M g b 2 2 k off av _ al 0 ws W h1 (by omega)).mono ?_
  rintro e w' ⟨v, rfl, ho, hb⟩
  obtain ⟨q, c, o, rfl, hq, hh, hp⟩ := pic_own ho (by omega) h1.mem.1.lasts
  rw [hl2]
  refine ⟨q, c, o, rfl, hp, rfl, Nat.le_trans h2.size hq, fun p o' e r => ?_, h9.mark hb hq hh⟩
  have := blk_lt' (h6 p o' e).2.2.2
  omega
theorem AwS.words (h : AwS w W z g b off k ws) : OkM ws ∧ ws.length = 16 := by
  obtain ⟨av, al, h1, h2, h3, h4, h5, h6⟩ := h
  exact ⟨h1.mem.1, h1.len⟩
end
end Go.Proofs.Ythigknolpdohoaa
