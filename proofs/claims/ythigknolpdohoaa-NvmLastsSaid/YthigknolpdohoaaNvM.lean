/-
  A device in the making: Store, Flush, Fence, Crash, On of one that was made behind a world.
-/
import Derived.Test.YthigknolpdohoaaNvL
import Derived.Lib.SlBytesConst
namespace Go.Proofs.Ythigknolpdohoaa
open Go.RowKit Go
set_option linter.unusedVariables false
set_option linter.unusedSimpArgs false
set_option maxRecDepth 100000
/-- a device of two lines that was made behind w; a block apart from it -/
def AwS (w W : World) (z : List (Nat × Obj)) (g b : Nat) (off : Bool) (k : Nat) (ws : List Wd) : Prop :=
  ∃ av al, DevM W g b 2 2 off av k al 0 (.slice none 0 0) ws ∧ Below w.heap.size w W ∧ w.heap.size ≤ b ∧ w.heap.size ≤ g ∧ (∀ u ∈ al, u.oneCell' = true) ∧ ∀ q o, (q, o) ∈ z → q ≠ g ∧ q ≠ b ∧ av.ownBlock ≠ some q ∧ W.heap[q]? = some o
/-- bytes of a constant -/
theorem aw_conv (W : World) (cs : Array Value) (n : Nat) (hn : cs.size = n) : (convert 28 28 (.slice (some ⟨W.heap.size, 0, none⟩) n n)).run Try.prog (W.alloc (.cells cs 5)) = .ok (.slice (some ⟨W.heap.size, 0, none⟩) n n) (W.alloc (.cells cs 5 (n, n + 1))) := by
  subst hn
  exact Lib.run_convert_bytes_const W _ _ cs cs.size cs.size Try.underlying28 Try.underlying5
theorem aw_bs (W : World) (l : List Nat) (n : Nat) (z : Nat × Nat) (hl : l.length = n) (hn : n ≤ 1000) (hb : ∀ i, l.getD i 0 < 256) (vs : Array Value) (hv : vs = (l.map fun x => Value.int .u8 ((x : Nat) : Int)).toArray) : BS (W.alloc (.cells vs 5 z)) (W.alloc (.cells vs 5 z)).heap.size (some ⟨W.heap.size, 0, none⟩) n n l := by
  subst hv
  have hs : (W.alloc (.cells ((l.map fun x => Value.int .u8 ((x : Nat) : Int)).toArray) 5 z)).heap.size = W.heap.size + 1 := by simp
  refine ⟨hl, by omega, by omega, hb, fun h0 => ⟨W.heap.size, 0, rfl, by omega, fun i hi => ?_⟩⟩
  rw [World.cell?_alloc_mark, Nat.zero_add]
  simp [List.getElem?_map, List.getElem?_eq_getElem (show i < l.length by omega), List.getD]
section
variable {w W : World} {g b k : Nat} {off : Bool} {ws : List Wd} {z : List (Nat × Obj)} {q0 : Nat} {o0 : Obj}
theorem DevM.turnz {V : World} {L c : Nat} {av pv : Value} {al : List Value} {u : Int} (h : DevM W g b L c off av k al u pv ws) (ht : Turns (fun j => j = q0) W V) (h1 : q0 ≠ g) (h2 : q0 ≠ b) (h3 : av.ownBlock ≠ some q0) : DevM V g b L c off av k al u pv ws := by
  refine h.turns (qq := q0) (ht.mono fun j _ e => .inr e) h1 (fun j e r => h3 (by rw [e, r])) (h.mem.same (ht.block b h.mem.lt (fun e => h2 e.symm))) h.len
theorem blk_lt' {q : Nat} {o : Obj} (h : W.heap[q]? = some o) : q < W.heap.size := by
  rcases Nat.lt_or_ge q W.heap.size with h1 | h1
  · exact h1
  · rw [Array.getElem?_eq_none h1] at h; cases h
theorem keep_z {V : World} {av : Value} (h6 : ∀ q o, (q, o) ∈ z → q ≠ g ∧ q ≠ b ∧ av.ownBlock ≠ some q ∧ W.heap[q]? = some o) (hV : Below W.heap.size W V) : ∀ q o, (q, o) ∈ z → q ≠ g ∧ q ≠ b ∧ av.ownBlock ≠ some q ∧ V.heap[q]? = some o := fun q o e => by
  obtain ⟨a1, a2, a3, a4⟩ := h6 q o e
  exact ⟨a1, a2, a3, (hV.block q (blk_lt' a4)).trans a4⟩
/-- a block that is made is apart -/
theorem AwS.mark (h : AwS w W z g b off k ws) {V : World} (hb : Below W.heap.size W V) {q0 : Nat} {o : Obj} (hq : W.heap.size ≤ q0) (ho : V.heap[q0]? = some o) : AwS w V ((q0, o) :: z) g b off k ws := by
  obtain ⟨av, al, h1, h2, h3, h4, h5, h6⟩ := h
  have hg := h1.dev.dev.lt
  have hbl := h1.mem.lt
  have hlt := h1.dev.own.lt
  refine ⟨av, al, h1.next hb, h2.trans (hb.mono h2.size), h3, h4, h5, fun q o' e => ?_⟩
  rcases List.mem_cons.1 e with e | e
  · injection e with e1 e2
    subst e1
    subst e2
    exact ⟨by omega, by omega, fun r => by have := (hlt _ r).2; omega, ho⟩
  · exact keep_z h6 hb q o' e
/-- such a block turns -/
theorem AwS.turn (h : AwS w W ((q0, o0) :: z) g b off k ws) (hz : ∀ q o, (q, o) ∈ z → q ≠ q0) (hq : w.heap.size ≤ q0) {V : World} (ht : Turns (fun j => j = q0) W V) {o : Obj} (ho : V.heap[q0]? = some o) : AwS w V ((q0, o) :: z) g b off k ws := by
  obtain ⟨av, al, h1, h2, h3, h4, h5, h6⟩ := h
  obtain ⟨a1, a2, a3, a4⟩ := h6 q0 o0 (List.mem_cons_self ..)
  have hlt := h1.dev.own.lt
  refine ⟨av, al, h1.turnz ht a1 a2 a3, h2.trans (ht.below h2.size (by intro j e; omega)), h3, h4, h5, fun q o' e => ?_⟩
  rcases List.mem_cons.1 e with e | e
  · injection e with e1 e2
    subst e1
    subst e2
    exact ⟨a1, a2, a3, ho⟩
  · obtain ⟨b1, b2, b3, b4⟩ := h6 q o' (List.mem_cons_of_mem _ e)
    exact ⟨b1, b2, b3, (ht.block q (blk_lt' b4) (hz q o' e)).trans b4⟩
theorem AwS.has (h : AwS w W z g b off k ws) {q : Nat} {o : Obj} (e : (q, o) ∈ z) : W.heap[q]? = some o := by
  obtain ⟨av, al, h1, h2, h3, h4, h5, h6⟩ := h
  exact (h6 q o e).2.2.2
theorem AwS.under (h : AwS w W z g b off k ws) : Below w.heap.size w W := by
  obtain ⟨av, al, h1, h2, h3, h4, h5, h6⟩ := h
  exact h2
theorem AwS.next {W' : World} (h : AwS w W z g b off k ws) (hb : Below W.heap.size W W') : AwS w W' z g b off k ws := by
  obtain ⟨av, al, h1, h2, h3, h4, h5, h6⟩ := h
  exact ⟨av, al, h1.next hb, h2.trans (hb.mono h2.size), h3, h4, h5, fun q o e => by
    obtain ⟨a1, a2, a3, a4⟩ := h6 q o e
    exact ⟨a1, a2, a3, (hb.block q (blk_lt' a4)).trans a4⟩⟩
theorem aw_new (w : World) : Calls Try.prog 7 #[.int .i64 2] w fun e w' => ∃ g b, e = .returned (.pointer (some ⟨g, 0, none⟩)) ∧ AwS w w' [] g b false 0 (zws 2) := by
  refine (new_M 2 (by omega) w).mono ?_
  rintro e w1 ⟨he, hd, hb, hs⟩
  exact ⟨_, _, he, _, _, hd, hb, by omega, by omega, (fun u hu => by simp at hu), fun q o e => by cases e⟩
theorem aw_acted {av : Value} {al : List Value} {kd a n : Int} {ws' : List Wd} {V : World} {e : Ending} {w' : World} (hd : DevM V g b 2 2 false av k al 0 (.slice none 0 0) ws) (hb : Below w.heap.size w V) (h3 : w.heap.size ≤ b) (h4 : w.heap.size ≤ g) (h5 : ∀ u ∈ al, u.oneCell' = true) (h6 : ∀ q o, (q, o) ∈ z → q ≠ g ∧ q ≠ b ∧ av.ownBlock ≠ some q ∧ V.heap[q]? = some o) (h : ActedM V g b 2 2 av (k + 1) (al ++ actV kd a n) (.slice none 0 0) ws' e w') : e = .returned (.int .i64 0) ∧ AwS w w' z g b false (k + 1) ws' := by
  obtain ⟨he, av', hd', ht, ho⟩ := h
  have hlt := hd.dev.own.lt
  refine ⟨he, av', _, hd', hb.trans (ht.below hb.size ?_), h3, h4, ?_, ?_⟩
  · rintro j (q | q | q)
    · omega
    · omega
    · have := hlt j q; omega
  · intro u hu
    rcases List.mem_append.1 hu with q | q
    · exact h5 u q
    · simp only [actV, List.mem_cons, List.not_mem_nil, or_false] at q
      rcases q with rfl | rfl | rfl <;> rfl
  · intro q o e
    obtain ⟨a1, a2, a3, a4⟩ := h6 q o e
    have hq := blk_lt' a4
    refine ⟨a1, a2, ?_, (ht.block q hq ?_).trans a4⟩
    · rcases ho with ho | ⟨j, hj, ho⟩
      · rw [ho]; exact a3
      · rw [ho]; intro e; injection e with e; omega
    · rintro (r | r | r)
      · exact a1 r
      · exact a2 r
      · exact a3 r
theorem AwS.store (h : AwS w W z g b false k ws) (hk : k < 16384) (l : List Nat) (V : World) (hV : Below W.heap.size W V) (hb : BS V V.heap.size (some ⟨W.heap.size, 0, none⟩) 2 2 l) :
    Calls Try.prog 13 #[.pointer (some ⟨g, 0, none⟩), .int .i64 0, .slice (some ⟨W.heap.size, 0, none⟩) 2 2] V fun e w' => e = .returned (.int .i64 0) ∧ AwS w w' z g b false (k + 1) (putW Wd.st 0 l ws) := by
  obtain ⟨av, al, h1, h2, h3, h4, h5, h6⟩ := h
  have hg := h1.dev.dev.lt
  have hbl := h1.mem.lt
  have hlt := h1.dev.own.lt
  have hd := h1.next hV
  have hbV := h2.trans (hV.mono h2.size)
  refine (store_M g b 2 2 k 0 2 2 _ l av _ al ws V hd hk (by omega) hb ?_).mono fun e w' hq => aw_acted hd hbV h3 h4 h5 (keep_z h6 hV) hq
  intro _ ad e
  injection e with e
  subst e
  refine ⟨by show W.heap.size ≠ g; omega, by show W.heap.size ≠ b; omega, fun q => ?_⟩
  have := (hlt _ q).2
  exact absurd this (by show ¬ W.heap.size < W.heap.size; omega)
theorem AwS.flush (h : AwS w W z g b false k ws) (hk : k < 16384) :
    Calls Try.prog 14 #[.pointer (some ⟨g, 0, none⟩), .int .i64 0, .int .i64 2] W fun e w' => e = .returned (.int .i64 0) ∧ AwS w w' z g b false (k + 1) (turnW (fun _ => Wd.fl) (8 * (0 / 64)) (8 * ((0 + 2 - 1) / 64 + 1)) ws) := by
  obtain ⟨av, al, h1, h2, h3, h4, h5, h6⟩ := h
  exact (flush_M g b 2 2 k 0 2 av _ al ws W h1 hk (by omega) (by omega)).mono fun e w' hq => aw_acted h1 h2 h3 h4 h5 h6 hq
theorem AwS.fence (h : AwS w W z g b false k ws) (hk : k < 16384) :
    Calls Try.prog 15 #[.pointer (some ⟨g, 0, none⟩)] W fun e w' => e = .returned (.int .i64 0) ∧ AwS w w' z g b false (k + 1) (turnW (fun _ => Wd.fe) 0 (8 * 2) ws) := by
  obtain ⟨av, al, h1, h2, h3, h4, h5, h6⟩ := h
  exact (fence_M g b 2 2 k av _ al ws W h1 hk (by omega)).mono fun e w' hq => aw_acted h1 h2 h3 h4 h5 h6 hq
theorem AwS.crash (h : AwS w W z g b false k ws) (l : List Nat) (n c : Nat) (A : Option Addr) (V : World) (hV : Below W.heap.size W V) (hb : BS V V.heap.size A n c l) (hA : A = none ∨ A = some ⟨W.heap.size, 0, none⟩) :
    Calls Try.prog 18 #[.pointer (some ⟨g, 0, none⟩), .slice A n c] V fun e w' => e = .returned (.tuple #[]) ∧ AwS w w' z g b true k (crashW l 2 ws) := by
  obtain ⟨av, al, h1, h2, h3, h4, h5, h6⟩ := h
  have hbl := h1.mem.lt
  have hbV := h2.trans (hV.mono h2.size)
  refine (crash_M g b 2 2 k n c A l av _ al 0 ws V (h1.next hV) (by omega) hb ?_).mono ?_
  · intro _ ad e
    rcases hA with rfl | rfl
    · cases e
    · injection e with e
      subst e
      show W.heap.size ≠ b
      omega
  · rintro e w' ⟨he, hd, ht⟩
    refine ⟨he, av, al, hd, hbV.trans (ht.below hbV.size (by rintro j (q | q) <;> omega)), h3, h4, h5, fun q o e => ?_⟩
    obtain ⟨a1, a2, a3, a4⟩ := keep_z h6 hV q o e
    exact ⟨a1, a2, a3, (ht.block q (blk_lt' a4) (by rintro (r | r); exact a1 r; exact a2 r)).trans a4⟩
theorem AwS.on (h : AwS w W z g b off k ws) : Calls Try.prog 12 #[.pointer (some ⟨g, 0, none⟩)] W fun e w' => e = .returned (.tuple #[]) ∧ AwS w w' z g b false k ws := by
  obtain ⟨av, al, h1, h2, h3, h4, h5, h6⟩ := h
  refine (on_M g b 2 2 k off av _ al 0 ws W h1).mono ?_
  rintro e w' ⟨he, hd, ht⟩
  refine ⟨he, av, al, hd, h2.trans (ht.below h2.size (by intro j q; omega)), h3, h4, h5, fun q o e => ?_⟩
  obtain ⟨a1, a2, a3, a4⟩ := h6 q o e
  exact ⟨a1, a2, a3, (ht.block q (blk_lt' a4) a1).trans a4⟩
theorem AwS.load (h : AwS w W z g b false k ws) {x : Wd} (hx : ws[0]? = some x) : Calls Try.prog 20 #[.pointer (some ⟨g, 0, none⟩), .int .i64 0, .int .i64 2] W (LdTo W (x.now.getD 0 0) (x.now.getD 1 0)) := by
  obtain ⟨av, al, h1, h2, h3, h4, h5, h6⟩ := h
  exact load_M g b 2 2 k av _ al 0 ws x W h1 (by omega) hx
theorem AwS.image (h : AwS w W z g b off k ws) : Calls Try.prog 19 #[.pointer (some ⟨g, 0, none⟩)] W fun e w' => ∃ A c, e = .returned (.slice A 128 c) ∧ BS w' w'.heap.size A 128 c (lastsL ws) ∧ Below W.heap.size W w' := by
  obtain ⟨av, al, h1, h2, h3, h4, h5, h6⟩ := h
  have hl := lastsL_len h1.mem.1
  rw [h1.len] at hl
  refine (image_M g b 2 2 k off av _ al 0 ws W h1 (by omega)).mono ?_
  rintro e w' ⟨v, rfl, ho, hb⟩
  obtain ⟨A, c, rfl, hs⟩ := ho.bs (fun i => by
    by_cases hi : i < (lastsL ws).length
    · rw [List.getD_eq_getElem?_getD, List.getElem?_eq_getElem hi]
      have hm := List.getElem_mem hi
      unfold lastsL at hm
      obtain ⟨x, hx, hv⟩ := List.mem_flatMap.1 hm
      exact (h1.mem.1 x hx).lb _ hv
    · rw [List.getD_eq_getElem?_getD, List.getElem?_eq_none (by omega)]; simp)
  have hl2 : (lastsL ws).length = 128 := by omega
  rw [hl2] at hs ⊢
  exact ⟨A, c, rfl, hs, hb⟩
theorem AwS.acts (h : AwS w W z g b off k ws) (hk : 0 < k) (hk9 : k < 100000) : Calls Try.prog 22 #[.pointer (some ⟨g, 0, none⟩)] W (AcTo W k) := by
  obtain ⟨av, al, h1, h2, h3, h4, h5, h6⟩ := h
  exact acts_M g b 2 2 k off av _ al 0 ws W h1 hk hk9 h5
end
def aw1 : List Wd := putW Wd.st 0 [97, 98] (zws 2)
def aw2 : List Wd := turnW (fun _ => Wd.fl) (8 * (0 / 64)) (8 * ((0 + 2 - 1) / 64 + 1)) aw1
def aw3 : List Wd := turnW (fun _ => Wd.fe) 0 (8 * 2) aw2
def aw4 : List Wd := putW Wd.st 0 [99, 100] aw3
def aw5 : List Wd := crashW [] 2 aw4
def aw6 : List Wd := putW Wd.st 0 [101, 102] aw5
def aw7 : List Wd := crashW [1] 2 aw6
theorem aw5_now : ∃ x, aw5[0]? = some x ∧ x.now.getD 0 0 = 97 ∧ x.now.getD 1 0 = 98 := ⟨(aw5[0]?).getD zw, by kernel_rfl, by kernel_rfl, by kernel_rfl⟩
theorem aw7_lasts : (lastsL aw7).take 2 = [101, 102] := by kernel_rfl
end Go.Proofs.Ythigknolpdohoaa
