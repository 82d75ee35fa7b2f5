/-
  The document's cipher while it is being made.
-/
import Derived.Test.YtplapepgedagoaaRefT
import Derived.Test.YtplapepgedagoaaAesN
import Derived.Test.YtplapepgedagoaaHeldF
import Derived.Test.YtplapepgedagoaaCel
import Derived.Test.YtplapepgedagoaaOwn
namespace Go.Proofs.Ytplapepgedagoaa
open Go.RowKit Go
set_option linter.unusedVariables false
set_option linter.unusedSimpArgs false
attribute [local irreducible] Gf.inv Gf.tm Gf.pw Gf.spread Gf.sub Gf.boxAt Gf.bk Gf.rm Gf.bit
/-- the box, products by 2, the words' slice, the rounds -/
def refF (tw : Nat → Nat) (v : Value) (r : Int) (i : Nat) : Value := if i < 256 then .int .u8 ((Gf.sub i : Nat) : Int) else if i < 512 then .int .u8 ((tw (i - 256) : Nat) : Int) else if i = 512 then v else .int .i64 r
def refZ (i : Nat) : Value := if i < 512 then .int .u8 0 else if i = 512 then .slice none 0 0 else .int .i64 0
def twF (n : Nat) (i : Nat) : Nat := if i < n then Gf.rm 2 i else 0
theorem ref_zero : Try.prog.built 40 [] = some (rowV refZ 514) := by kernel_rfl
abbrev TyW : TypeId := 36
structure RefS (w : World) (g : Nat) (tw : Nat → Nat) (v : Value) (r : Int) (m : Nat) (ks : List Nat) (W : World) : Prop where
  ge : w.heap.size ≤ g
  below : Below w.heap.size w W
  cells : Cells W g 514 (refF tw v r)
  own : W.ownsRow (g + 1) TyW 4 v m (bvals ks)
section
variable {w W W' : World} {g m : Nat} {tw : Nat → Nat} {v : Value} {r : Int} {ks : List Nat}
theorem RefS.len (h : RefS w g tw v r m ks W) : ks.length = 4 * m := by have := h.own.1; rw [bvals_len] at this; omega
theorem RefS.next (h : RefS w g tw v r m ks W) (hb : Below W.heap.size W W') : RefS w g tw v r m ks W' :=
  ⟨h.ge, h.below.trans (hb.mono h.below.size), h.cells.after hb, h.own.kept (below_is_only' hb) (by
    have := h.own.lt
    rcases hv : v.ownBlock with _ | k
    · exact .inl rfl
    · exact .inr (by rw [← hv]; simp [hv]))⟩
where
  below_is_only' {a b : World} (h : Below a.heap.size a b) : a.grownBy b none := ⟨h.os, h.tape, h.output, h.size, fun i hi _ => h.block i hi⟩
theorem RefS.drew (h : RefS w g tw v r m ks W) : RefS w g tw v r m ks W.drew := h.next ((Below.refl _ _).drew)
theorem RefS.alloc (h : RefS w g tw v r m ks W) (o : Obj) : RefS w g tw v r m ks (W.alloc o) := h.next ((Below.refl _ _).alloc (Nat.le_refl _) o)
theorem RefS.box (h : RefS w g tw v r m ks W) {c : Nat} (hc : c < 256) : W.cell? ⟨g, c, none⟩ = some (.int .u8 ((Gf.sub c : Nat) : Int)) := by
  rw [h.cells.cell c (by omega)]; unfold refF; rw [if_pos hc]
theorem RefS.twice (h : RefS w g tw v r m ks W) {c : Nat} (hc : c < 256) : W.cell? ⟨g, 256 + c, none⟩ = some (.int .u8 ((tw c : Nat) : Int)) := by
  rw [h.cells.cell (256 + c) (by omega)]; unfold refF; rw [if_neg (by omega), if_pos (by omega), Nat.add_sub_cancel_left]
theorem RefS.words (h : RefS w g tw v r m ks W) : W.cell? ⟨g, 512, none⟩ = some v := by rw [h.cells.cell 512 (by omega)]; rfl
theorem RefS.rounds (h : RefS w g tw v r m ks W) : W.cell? ⟨g, 513, none⟩ = some (.int .i64 r) := by rw [h.cells.cell 513 (by omega)]; rfl
theorem RefS.frozen (h : RefS w g tw v r m ks W) {c : Nat} (hc : c < 514) : W.frozen? ⟨g, c, none⟩ = false := h.cells.free c hc
/-- where the words lie -/
theorem RefS.word (h : RefS w g tw v r m ks W) (hm : 0 < m) : ∃ b cap, v = .slice (some ⟨b, 0, none⟩) m cap ∧ g < b ∧ b < W.heap.size ∧ m ≤ cap ∧ cap ≤ 9223372036854775807 ∧ ∀ j, j < 4 * m → W.cell? ⟨b, j, none⟩ = some (.int .u8 ((ks.getD j 0 : Nat) : Int)) := by
  obtain ⟨b, cap, hv, hb, hlt, h1, h2, hc⟩ := own_at h.own hm
  have hl := h.len
  refine ⟨b, cap, hv, by omega, hlt, h1, h2, fun j hj => hc j _ ?_⟩
  simp [bvals, List.getElem?_eq_getElem (show j < ks.length by omega), List.getD]
/-- a word was appended, and the slice put back -/
theorem RefS.grow {v' : Value} {ks' : List Nat} (h : RefS w g tw v r m ks W) (hg : W.grownBy W' v.ownBlock) (ho : W'.ownsRow (g + 1) TyW 4 v' (m + 1) (bvals ks')) :
    RefS w g tw v' r (m + 1) ks' (W'.setCell ⟨g, 512, none⟩ v') := by
  have hlt := h.own.lt
  have hb := h.below.grown hg h.below.size (fun k hk => by have := (hlt k hk).1; have := h.ge; omega)
  have hne : some g ≠ v.ownBlock := fun e => by have := (hlt g e.symm).1; omega
  refine ⟨h.ge, hb.setCell (p := ⟨g, 512, none⟩) h.ge _, ((h.cells.only hg hne).set_ (k := 512) (by omega) v').congr fun i hi => ?_, ?_⟩
  · by_cases e : i = 512
    · rw [if_pos e]; unfold refF; rw [if_neg (by omega), if_neg (by omega), if_pos e]
    · rw [if_neg e]; unfold refF
      by_cases e1 : i < 256
      · rw [if_pos e1, if_pos e1]
      · by_cases e2 : i < 512
        · rw [if_neg e1, if_pos e2, if_neg e1, if_pos e2]
        · rw [if_neg e1, if_neg e2, if_neg e, if_neg e1, if_neg e2, if_neg e]
  · obtain ⟨h1, h2⟩ := ho
    refine ⟨h1, ?_⟩
    rcases h2 with h2 | ⟨b, cap, cur, hv, hbg, hh, hr⟩
    · exact .inl h2
    · exact .inr ⟨b, cap, cur, hv, hbg, (Below.heap_setCell _ _ _ _ (by show b ≠ g; omega)).trans hh, hr⟩
theorem RefS.grown_cell (h : RefS w g tw v r m ks W) (hg : W.grownBy W' v.ownBlock) {p : Addr} (hp : p.block ≤ g) : W'.cell? p = W.cell? p :=
  hg.cell_far p (Nat.lt_of_le_of_lt hp h.cells.lt) (fun e => by have := (h.own.lt _ e.symm).1; omega)
theorem RefS.grown_frozen (h : RefS w g tw v r m ks W) (hg : W.grownBy W' v.ownBlock) {p : Addr} (hp : p.block ≤ g) : W'.frozen? p = W.frozen? p :=
  hg.frozen_far p (Nat.lt_of_le_of_lt hp h.cells.lt) (fun e => by have := (h.own.lt _ e.symm).1; omega)
theorem RefS.rel {tw' : Nat → Nat} (h : RefS w g tw v r m ks W) (e : ∀ i, i < 256 → tw i = tw' i) : RefS w g tw' v r m ks W :=
  ⟨h.ge, h.below, h.cells.congr fun i hi => by
    unfold refF
    by_cases e1 : i < 256
    · rw [if_pos e1, if_pos e1]
    · by_cases e2 : i < 512
      · rw [if_neg e1, if_pos e2, if_neg e1, if_pos e2, e _ (by omega)]
      · rw [if_neg e1, if_neg e2, if_neg e1, if_neg e2], h.own⟩
/-- a product is put in -/
theorem RefS.fill {n : Nat} (h : RefS w g (twF n) v r m ks W) (hn : n < 256) : RefS w g (twF (n + 1)) v r m ks (W.setCell ⟨g, 256 + n, none⟩ (.int .u8 ((Gf.rm 2 n : Nat) : Int))) := by
  have hlt := h.own.lt
  refine ⟨h.ge, h.below.setCell (p := ⟨g, 256 + n, none⟩) h.ge _, (h.cells.set_ (k := 256 + n) (by omega) _).congr fun i hi => ?_, ?_⟩
  · unfold refF
    by_cases e : i = 256 + n
    · subst e; rw [if_pos rfl, if_neg (by omega), if_pos (by omega), Nat.add_sub_cancel_left]; unfold twF; rw [if_pos (by omega)]
    · rw [if_neg e]
      by_cases e1 : i < 256
      · rw [if_pos e1, if_pos e1]
      · by_cases e2 : i < 512
        · rw [if_neg e1, if_pos e2, if_neg e1, if_pos e2]
          unfold twF
          by_cases e3 : i - 256 < n
          · rw [if_pos e3, if_pos (by omega)]
          · rw [if_neg e3, if_neg (by omega)]
        · rw [if_neg e1, if_neg e2, if_neg e1, if_neg e2]
  · obtain ⟨h1, h2⟩ := h.own
    refine ⟨h1, ?_⟩
    rcases h2 with h2 | ⟨b, cap, cur, hv, hbg, hh, hr⟩
    · exact .inl h2
    · exact .inr ⟨b, cap, cur, hv, hbg, (Below.heap_setCell _ _ _ _ (by show b ≠ g; omega)).trans hh, hr⟩
/-- the rounds are put in -/
theorem RefS.turn {r' : Int} (h : RefS w g tw v r m ks W) : RefS w g tw v r' m ks (W.setCell ⟨g, 513, none⟩ (.int .i64 r')) := by
  refine ⟨h.ge, h.below.setCell (p := ⟨g, 513, none⟩) h.ge _, (h.cells.set_ (k := 513) (by omega) _).congr fun i hi => ?_, ?_⟩
  · unfold refF
    by_cases e : i = 513
    · subst e; rw [if_pos rfl, if_neg (by omega), if_neg (by omega), if_neg (by omega)]
    · rw [if_neg e]
      by_cases e1 : i < 256
      · rw [if_pos e1, if_pos e1]
      · by_cases e2 : i < 512
        · rw [if_neg e1, if_pos e2, if_neg e1, if_pos e2]
        · rw [if_neg e1, if_neg e2, if_pos (by omega), if_neg e1, if_neg e2, if_pos (by omega)]
  · obtain ⟨h1, h2⟩ := h.own
    refine ⟨h1, ?_⟩
    rcases h2 with h2 | ⟨b, cap, cur, hv, hbg, hh, hr⟩
    · exact .inl h2
    · exact .inr ⟨b, cap, cur, hv, hbg, (Below.heap_setCell _ _ _ _ (by show b ≠ g; omega)).trans hh, hr⟩
end
/-- the beginning: the box is put in -/
theorem ref_start {w w1 : World} {F : Nat → Value} (hF : ∀ i, i < 256 → F i = .int .u8 ((Gf.sub i : Nat) : Int)) (hb : Below (w.heap.size + 1) (w.alloc (.cells (rowV refZ 514) 40)) w1) :
    RefS w w.heap.size (twF 0) (.slice none 0 0) 0 0 [] (w1.setCells w.heap.size 0 (rowV F 256).toList) := by
  have h0 : Cells (w.alloc (.cells (rowV refZ 514) 40)) w.heap.size 514 refZ := Cells.of_blk (heap_alloc_new w _) fun i hi => rowV_at _ hi
  have h1 := h0.below hb (by omega)
  have hl : (rowV F 256).toList.length = 256 := by simp [rowV_size]
  have hbw : Below w.heap.size w w1 := ((Below.refl _ _).alloc (Nat.le_refl _) _).trans (hb.mono (by omega))
  refine ⟨Nat.le_refl _, below_setCells _ _ _ hbw (Nat.le_refl _), (h1.sets (o := 0) (vs := (rowV F 256).toList) (by rw [hl]; omega)).congr fun i hi => ?_, World.ownsRow_nil _ _ _ _⟩
  rw [hl]
  unfold refF
  by_cases e : i < 256
  · rw [if_pos ⟨by omega, by omega⟩, if_pos e, Nat.sub_zero, List.getD_eq_getElem?_getD, Array.getElem?_toList, rowV_at _ e, Option.getD_some, hF i e]
  · rw [if_neg (by omega), if_neg e]
    unfold refZ twF
    by_cases e2 : i < 512
    · rw [if_pos e2, if_pos e2, if_neg (by omega)]; rfl
    · rw [if_neg e2, if_neg e2]
end Go.Proofs.Ytplapepgedagoaa
