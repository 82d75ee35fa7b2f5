/-
  Joined: OpenF, SeU, SeV.
-/
import Derived.WalkKit
import Derived.ProofKit
import Derived.OpenShut
import Derived.Deep.Slices
import Derived.Deep.Fields
import Derived.ChangeSame
import Derived.Test.YthjpaligpojlnaaSzB
namespace Go.Proofs.Ythjpaligpojlnaa
set_option maxRecDepth 100000
section
open Go.RowKit Go Go.WideShapes Go.ChangeShapes Go.Deep
set_option linter.unusedVariables false
section
variable {H : Type} {enc : TypeId × Value → H} {P : Program} {w : World}
/-- field j of element i lies in a cell of its own, and reads as its type does -/
def FieldsAt (enc : TypeId × Value → H) (P : Program) (w : World) (A : Option Addr) (n : Nat) (fs : Array Field) : Prop :=
  0 < n → ∃ b o, A = some ⟨b, o, none⟩ ∧ b < w.heap.size ∧ ∀ i, i < n → ∀ j f, fs[j]? = some f → ∃ v fuel y, w.cell? ⟨b, o + (i * fs.size + j), none⟩ = some v ∧ DataW.trod enc P w 0 (fun _ => true) true fuel f.type [v] = some y
theorem fields_open {t e : TypeId} {fs : Array Field} (ht : P.underlying t = some (.slice e)) (he : P.underlying e = some (.struct fs)) (hone : oneCellFields P fs = true) (hC : P.cellsOf e = fs.size) (h0 : 0 < fs.size)
    {A : Option Addr} {n c : Nat} {d : DataW H} {p : List MemPlace} (h : DataW.Trod enc P w 0 (fun _ => true) true t (.slice A n c) d p) :
    FieldsAt enc P w A n fs ∧ n ≤ c ∧ c ≤ maxLen ∧ (A = none → c = 0) := by
  obtain ⟨fuel, hfu⟩ := h
  rcases open_slice ht hfu with ⟨hcs, _⟩ | ⟨a, len, cap, m, k, D, Pl, hcs, _, hl, hm, hmm, _, hi⟩
  · simp [Value.cells] at hcs
    obtain ⟨rfl, rfl, rfl⟩ := hcs
    exact ⟨fun h => absurd h (by omega), by omega, by unfold maxLen; omega, fun _ => rfl⟩
  · simp [Value.cells] at hcs
    obtain ⟨rfl, rfl, rfl⟩ := hcs
    have hm2 : m = c := by simpa using hmm
    have key : ∀ i, i < n → ∀ j f, fs[j]? = some f → ∃ v fuel y, w.cell? ((a.add (i * fs.size)).add j) = some v ∧ DataW.trod enc P w 0 (fun _ => true) true fuel f.type [v] = some y := fun i hin j f hj => by
      obtain ⟨cs', hc, ht'⟩ := hi i (by omega)
      rw [hC] at hc
      obtain ⟨ys, n', _, _, _, hyl, hf⟩ := DataW.trod_struct he ht'
      obtain ⟨_, hcl, hat⟩ := World.cells?_some hc
      obtain ⟨ho, hk⟩ := hone_of hone j f hj
      have hjl : j < fs.size := (Array.getElem?_eq_some_iff.1 hj).1
      have h1 := hf j f hj
      rw [ho, hk] at h1
      have h2 : (cs'.drop j).take 1 = [cs'[j]'(by omega)] := by
        rw [List.drop_eq_getElem_cons (by omega)]
        rfl
      rw [h2] at h1
      have h3 : ys[j]? = some (ys[j]'(by omega)) := List.getElem?_eq_getElem (by omega)
      have h4 : cs'[j]? = some (cs'[j]'(by omega)) := List.getElem?_eq_getElem (by omega)
      exact ⟨cs'[j]'(by omega), n', _, (hat j hjl).trans h4, h1.trans h3⟩
    refine ⟨fun hn0 => ?_, hl, hm, fun h => by cases h⟩
    obtain ⟨b, off, spot⟩ := a
    obtain ⟨v0, _, _, hc0, _⟩ := key 0 hn0 0 _ (Array.getElem?_eq_getElem h0)
    have hspot : spot = none := by simpa [Addr.add] using World.cell?_spot hc0
    subst hspot
    refine ⟨b, off, rfl, by simpa [Go.WideShapes.add_plain] using block_lt_of_cell hc0, fun i hin j f hj => ?_⟩
    obtain ⟨v, fu, y, h1, h2⟩ := key i hin j f hj
    refine ⟨v, fu, y, ?_, h2⟩
    rw [← h1, Go.WideShapes.add_plain, Go.WideShapes.add_plain, Nat.add_assoc]
end
end
section
open Go.RowKit Go Go.WideShapes Go.ChangeShapes Go.Deep
set_option linter.unusedVariables false
set_option linter.unusedSimpArgs false
set_option maxRecDepth 100000
attribute [local irreducible] Gf.inv Gf.tm Gf.pw Gf.spread Gf.sub Gf.boxAt Gf.bk Gf.rm Gf.bit
/-! ### the calls -/
structure OpR where
  k : Int
  e : Nat
  b : Int
  A : Option Addr
  n : Nat
  c : Nat
  l : List Nat
def OpR.cs (r : OpR) : List Value := [.int .i64 r.k, .int .u64 (r.e : Int), .int .i64 r.b, .slice r.A r.n r.c]
abbrev TO : TypeId := 37
structure OpOk (w : World) (r : OpR) : Prop where
  e : r.e < 2 ^ 64
  bs : BS w w.heap.size r.A r.n r.c r.l
  nil_ : r.A = none → r.c = 0
/-- the calls that came in -/
def OpsE (w : World) (A : Option Addr) (n : Nat) (R : Nat → OpR) : Prop :=
  0 < n → ∃ b o, A = some ⟨b, o, none⟩ ∧ b < w.heap.size ∧ ∀ i, i < n → OpOk w (R i) ∧ w.cell? ⟨b, o + i * 4, none⟩ = some (.int .i64 (R i).k) ∧ w.cell? ⟨b, o + i * 4 + 1, none⟩ = some (.int .u64 ((R i).e : Int)) ∧ w.cell? ⟨b, o + i * 4 + 2, none⟩ = some (.int .i64 (R i).b) ∧ w.cell? ⟨b, o + i * 4 + 3, none⟩ = some (.slice (R i).A (R i).n (R i).c)
section
variable {H : Type} {enc : TypeId × Value → H} {w : World}
theorem bs_of_cell {v : Value} {fuel : Nat} {y : DataW H × List MemPlace} (h : DataW.trod enc Try.prog w 0 (fun _ => true) true fuel 29 [v] = some y) : ∃ A n c l, v = .slice A n c ∧ BS w w.heap.size A n c l ∧ (A = none → c = 0) := by
  rcases open_ints Try.underlying29 Try.underlying5 (by kernel_rfl) h with ⟨hcs, _⟩ | ⟨x, l, c, zs, hcs, _, hl, hm, hz, _, hcell, hwz⟩
  · injection hcs with hcs
    subst hcs
    exact ⟨none, 0, 0, [], rfl, BS.nil _ _, fun _ => rfl⟩
  · injection hcs with hcs
    subst hcs
    obtain ⟨q, hq⟩ := BS.of_row (.inr ⟨x, rfl, hl, hm, by simpa using hz, hcell, hwz⟩)
    exact ⟨some x, l, c, q, rfl, hq, fun e => by cases e⟩
theorem opsE_open {A : Option Addr} {n c : Nat} {d : DataW H} {p : List MemPlace} (h : DataW.Trod enc Try.prog w 0 (fun _ => true) true 23 (.slice A n c) d p) : ∃ R, OpsE w A n R ∧ n ≤ 9223372036854775807 ∧ n ≤ c ∧ c ≤ 9223372036854775807 := by
  obtain ⟨h1, h2, h3, _⟩ := fields_open Try.underlying23 Try.underlying37 (by kernel_rfl) (by kernel_rfl) (by decide) h
  have hc : c ≤ 9223372036854775807 := by unfold maxLen at h3; omega
  rcases Nat.eq_zero_or_pos n with h0 | h0
  · exact ⟨fun _ => ⟨0, 0, 0, none, 0, 0, []⟩, fun h => absurd h (by omega), by omega, h2, hc⟩
  obtain ⟨b, o, hA, hb, hf⟩ := h1 h0
  have key : ∀ i, ∃ r : OpR, i < n → OpOk w r ∧ w.cell? ⟨b, o + i * 4, none⟩ = some (.int .i64 r.k) ∧ w.cell? ⟨b, o + i * 4 + 1, none⟩ = some (.int .u64 (r.e : Int)) ∧ w.cell? ⟨b, o + i * 4 + 2, none⟩ = some (.int .i64 r.b) ∧ w.cell? ⟨b, o + i * 4 + 3, none⟩ = some (.slice r.A r.n r.c) := fun i => by
    by_cases hi : i < n
    · obtain ⟨v0, _, y0, c0, t0⟩ := hf i hi 0 _ rfl
      obtain ⟨v1, _, y1, c1, t1⟩ := hf i hi 1 _ rfl
      obtain ⟨v2, _, y2, c2, t2⟩ := hf i hi 2 _ rfl
      obtain ⟨v3, _, y3, c3, t3⟩ := hf i hi 3 _ rfl
      obtain ⟨K, hK, _, _⟩ := DataW.trod_int Try.underlying3 t0
      injection hK with hK
      obtain ⟨E, hE, _, hw⟩ := DataW.trod_int Try.underlying31 t1
      injection hE with hE
      obtain ⟨B, hB, _, _⟩ := DataW.trod_int Try.underlying3 t2
      injection hB with hB
      obtain ⟨Ai, ni, ci, li, rfl, ht, hni⟩ := bs_of_cell t3
      obtain ⟨x, hx, rfl⟩ := nat_u64 hw
      subst hK hE hB
      exact ⟨⟨K, x, B, Ai, ni, ci, li⟩, fun _ => ⟨⟨hx, ht, hni⟩, by simpa using c0, by rw [Nat.add_assoc]; simpa using c1, by rw [Nat.add_assoc]; simpa using c2, by rw [Nat.add_assoc]; simpa using c3⟩⟩
    · exact ⟨⟨0, 0, 0, none, 0, 0, []⟩, fun h => absurd h hi⟩
  obtain ⟨R, hR⟩ := Classical.axiomOfChoice key
  exact ⟨R, fun _ => ⟨b, o, hA, hb, fun i hi => hR i hi⟩, by omega, h2, hc⟩
end
def b255 (k : Int) : Nat := (BitVec.ofInt 64 k).toNat &&& 255
theorem b255_lt (k : Int) : b255 k < 256 := by
  have : b255 k ≤ 255 := Nat.and_le_right
  omega
theorem b255_is (k : Int) : bits .and .i64 k 255 = (b255 k : Int) := by
  have h1 := b255_lt k
  show IntKind.i64.wrap ((BitVec.ofInt 64 k &&& BitVec.ofInt 64 255).toNat : Int) = _
  rw [BitVec.toNat_and]
  have h2 : (BitVec.ofInt 64 255).toNat = 255 := by decide
  rw [h2]
  exact IntWalk.i64_in _ ⟨by omega, by unfold b255 at h1; omega⟩
/-! ### what is told, and what is found -/
section
variable (ee bb : Nat → Nat) (pp xx : Nat → List Nat)
def Mt (i j : Nat) : Prop := ee j = ee i ∧ bb j = bb i ∧ pp j ≠ pp i
def Dif (k : Nat) : Prop := ∃ i, i < k ∧ ∃ j, j < i ∧ Mt ee bb pp i j
structure InvF (k : Nat) (F : Seen) (u : Bool) : Prop where
  there : ∀ j, j < k → (F (ee j) (bb j)).isSome = true
  from_ : ∀ e b x0, F e b = some x0 → ∃ j, j < k ∧ ee j = e ∧ bb j = b ∧ x0 = xx j
  told : u = true ↔ Dif ee bb pp k
end
section
variable {ee bb : Nat → Nat} {pp xx : Nat → List Nat}
theorem Dif.zero : ¬ Dif ee bb pp 0 := fun ⟨i, hi, _⟩ => by omega
theorem Dif.succ (k : Nat) : Dif ee bb pp (k + 1) ↔ Dif ee bb pp k ∨ ∃ j, j < k ∧ Mt ee bb pp k j := by
  constructor
  · rintro ⟨i, hi, j, hj, hm⟩
    rcases (by omega : i < k ∨ i = k) with h | rfl
    · exact Or.inl ⟨i, h, j, hj, hm⟩
    · exact Or.inr ⟨j, hj, hm⟩
  · rintro (⟨i, hi, j, hj, hm⟩ | ⟨j, hj, hm⟩)
    · exact ⟨i, by omega, j, hj, hm⟩
    · exact ⟨k, by omega, j, hj, hm⟩
theorem InvF.zero : InvF ee bb pp xx 0 none2 false :=
  ⟨fun j hj => absurd hj (by omega), fun e b x0 h => (by cases h), ⟨fun h => (by cases h), fun h => absurd h Dif.zero⟩⟩
theorem InvF.step (hx : ∀ i j, ee i = ee j → bb i = bb j → (xx i = xx j ↔ pp i = pp j)) {k : Nat} {F : Seen} {u : Bool} (h : InvF ee bb pp xx k F u) :
    InvF ee bb pp xx (k + 1) (seenF F (ee k) (bb k) (xx k)) (u || unlF F (ee k) (bb k) (xx k) u) := by
  cases hF : F (ee k) (bb k) with
  | none =>
    have hu : unlF F (ee k) (bb k) (xx k) u = false := by unfold unlF; rw [hF]
    have hs : seenF F (ee k) (bb k) (xx k) = fun e2 b2 => if e2 = ee k ∧ b2 = bb k then some (xx k) else F e2 b2 := by unfold seenF; rw [hF]; rfl
    rw [hu, Bool.or_false, hs]
    refine ⟨fun j hj => ?_, fun e b x0 h2 => ?_, ?_⟩
    · (try dsimp only)
      split
      · rfl
      · rename_i hne
        rcases (by omega : j < k ∨ j = k) with hj2 | rfl
        · exact h.there j hj2
        · exact absurd ⟨rfl, rfl⟩ hne
    · (try dsimp only at h2)
      split at h2
      · rename_i he
        cases h2
        exact ⟨k, by omega, he.1.symm, he.2.symm, rfl⟩
      · obtain ⟨j, hj, h3⟩ := h.from_ e b x0 h2
        exact ⟨j, by omega, h3⟩
    · rw [h.told, Dif.succ]
      refine ⟨Or.inl, fun hd => hd.elim id ?_⟩
      rintro ⟨j, hj, h1, h2, _⟩
      have := h.there j hj
      rw [h1, h2, hF] at this
      cases this
  | some x0 =>
    have hs : seenF F (ee k) (bb k) (xx k) = F := by unfold seenF; rw [hF]; rfl
    have hu : unlF F (ee k) (bb k) (xx k) u = (!decide (x0 = xx k) && !u) := by unfold unlF; rw [hF]
    rw [hs, hu]
    obtain ⟨j0, hj0, he0, hb0, hx0⟩ := h.from_ _ _ _ hF
    refine ⟨fun j hj => ?_, fun e b y h2 => ?_, ?_⟩
    · rcases (by omega : j < k ∨ j = k) with hj2 | rfl
      · exact h.there j hj2
      · rw [hF]; rfl
    · obtain ⟨j, hj, h3⟩ := h.from_ e b y h2
      exact ⟨j, by omega, h3⟩
    · rw [Dif.succ]
      by_cases hxx : x0 = xx k
      · rw [decide_eq_true hxx, Bool.not_true, Bool.false_and, Bool.or_false, h.told]
        refine ⟨Or.inl, fun hd => hd.elim id ?_⟩
        rintro ⟨j, hj, h1, h2, h3⟩
        have hp0 : pp j0 = pp k := (hx j0 k he0 hb0).1 (hx0 ▸ hxx)
        rcases Nat.lt_trichotomy j j0 with hlt | rfl | hlt
        · exact ⟨j0, hj0, j, hlt, h1.trans he0.symm, h2.trans hb0.symm, fun q => h3 (q.trans hp0)⟩
        · exact absurd hp0 h3
        · exact ⟨j, hj, j0, hlt, he0.trans h1.symm, hb0.trans h2.symm, fun q => h3 (q.symm.trans hp0)⟩
      · rw [decide_eq_false hxx, Bool.not_false, Bool.true_and]
        have hp0 : pp j0 ≠ pp k := fun q => hxx (hx0.trans ((hx j0 k he0 hb0).2 q))
        refine ⟨fun _ => Or.inr ⟨j0, hj0, he0, hb0, hp0⟩, fun _ => ?_⟩
        cases u <;> rfl
end
end
section
open Go.RowKit Go Go.WideShapes Go.ChangeShapes Go.Deep
set_option linter.unusedVariables false
set_option linter.unusedSimpArgs false
set_option maxRecDepth 100000
attribute [local irreducible] Gf.inv Gf.tm Gf.pw Gf.spread Gf.sub Gf.boxAt Gf.bk Gf.rm Gf.bit b255
def OncR (w : World) (g : Nat) (ks : List Nat) (bm n : Nat) (ee bb : Nat → Nat) (pp xx : Nat → List Nat) (tv iv : Value) (W : World) : Prop :=
  ∃ (k : Nat) (T u : Bool) (te tb : Nat) (F : Seen), iv = .int .i64 (k : Int) ∧ tv = .bool T ∧ k ≤ n ∧ k ≤ 20 ∧ (T = true ↔ Dif ee bb pp k) ∧ SlR W g 10 ks bm k F te tb u ∧ FW F ∧ InvF ee bb pp xx k F u ∧ Below w.heap.size w W
theorem xx_iff {st : Nat → Nat → List Nat} (hst : ∀ e b, (st e b).length = 256) {ee bb : Nat → Nat} {pp : Nat → List Nat} (hp : ∀ i, (pp i).length = 256) (i j : Nat) (he : ee i = ee j) (hb : bb i = bb j) :
    (xorL (pp i) (st (ee i) (bb i)) = xorL (pp j) (st (ee j) (bb j)) ↔ pp i = pp j) := by
  rw [he, hb]
  exact ⟨fun h => xor_inj (hp i) (hp j) (hst _ _) h, fun h => by rw [h]⟩
theorem same_bool {x y : Bool} {P : Prop} (h1 : x = true ↔ P) (h2 : y = true ↔ P) : x = y := by
  cases x <;> cases y <;> simp_all
set_option maxHeartbeats 8000000 in
theorem sealOnce_any (la : List Nat) (ha : la.length = 16) (ha2 : ∀ i, la.getD i 0 < 256) (A : Option Addr) (n c : Nat) (R : Nat → OpR) (hn : n ≤ 9223372036854775807) (hnc : n ≤ c) (hc : c ≤ 9223372036854775807) (w : World) (h : OpsE w A n R) :
    Calls Try.prog 5 #[.agg (rowV (bF la) 16), .slice A n c] w fun r w' => r = .returned (.bool true) ∧ Below w.heap.size w w' := by
  obtain ⟨ks, hks, hmade⟩ := made_any la ha ha2
  have HMADE := Lib.hid hmade
  have hb0 := al w (.cells (rowV (bF la) 16) 22)
  have hx0 := heap_alloc_new w (.cells (rowV (bF la) 16) 22)
  obtain ⟨ee, hee⟩ : ∃ ee : Nat → Nat, ee = fun i => (R i).e := ⟨_, rfl⟩
  obtain ⟨bb, hbb⟩ : ∃ bb : Nat → Nat, bb = fun i => b255 (R i).b := ⟨_, rfl⟩
  obtain ⟨pp, hpp⟩ : ∃ pp : Nat → List Nat, pp = fun i => fullL (R i).l := ⟨_, rfl⟩
  obtain ⟨xx, hxx⟩ : ∃ xx : Nat → List Nat, xx = fun i => xorL (pp i) (stmL ks 10 (ee i) (bb i) 256) := ⟨_, rfl⟩
  have HPL : Hid (∀ i, (pp i).length = 256) := Lib.hid (fun i => by rw [hpp]; exact full_len _)
  have HXX : Hid (∀ i j, ee i = ee j → bb i = bb j → (xx i = xx j ↔ pp i = pp j)) := Lib.hid (fun i j h1 h2 => by
    rw [hxx]; exact xx_iff (st := fun e b => stmL ks 10 e b 256) (fun e b => stmL_len _ _ _ _ _) HPL.out i j h1 h2)
  have HXL : Hid (∀ i, (xx i).length = 256) := Lib.hid (fun i => by rw [hxx]; show (xorL _ _).length = 256; rw [xorL_len, HPL.out, stmL_len]; rfl)
  have HOP := Lib.hid h
  have HOK : Hid (∀ i, i < n → OpOk w (R i)) := Lib.hid (fun i hi => by obtain ⟨b, o, _, _, h9⟩ := h (by omega); exact (h9 i hi).1)
  have HPB : Hid (∀ i, i < n → ∀ j, (pp i).getD j 0 < 256) := Lib.hid (fun i hi j => by rw [hpp]; exact fullL_byte (HOK.out i hi).bs.byte j)
  have HFULL : Hid (∀ i, i < n → ∀ W, Below w.heap.size w W → Calls Try.prog 15 #[.slice (R i).A (R i).n (R i).c] W fun e w' => ∃ A c, e = .returned (.slice A 256 c) ∧ BS w' w'.heap.size A 256 c (pp i) ∧ (∀ ad, A = some ad → W.heap.size ≤ ad.block) ∧ Below W.heap.size W w') := Lib.hid (fun i hi W hW => by
    rw [hpp]; exact full_two _ _ _ _ (HOK.out i hi).nil_ W (((HOK.out i hi).bs.below hW).more hW.size))
  have HSEAL : Hid (∀ i, i < n → ∀ g bm m te tb f u A' c' W, SlR W g 10 ks bm m f te tb u → FW f → m < 1000000 → BS W W.heap.size A' 256 c' (pp i) → Calls Try.prog 14 #[.pointer (some ⟨g, 0, none⟩), .int .u64 ((ee i : Nat) : Int), .int .i64 ((bb i : Nat) : Int), .slice A' 256 c'] W (SealTo W g 10 ks bm m te tb f u (ee i) (bb i) (xx i))) := Lib.hid (fun i hi g bm m te tb f u A' c' W h1 h2 h3 h4 => by
    rw [hxx]; exact seal_ok g 10 ks bm m te tb f u (ee i) (bb i) (by rw [hee]; exact (HOK.out i hi).e) (by rw [hbb]; have := b255_lt (R i).b; show b255 (R i).b < 65536; omega) A' c' (pp i) W h1 hks (by omega) h2 h3 h4)
  have HEE : Hid (∀ i, (R i).e = ee i) := Lib.hid (fun i => by rw [hee])
  have HBB : Hid (∀ i, bits .and .i64 (R i).b 255 = ((bb i : Nat) : Int)) := Lib.hid (fun i => by rw [hbb]; exact b255_is _)
  have HB0 := Lib.hid hb0
  have HIA : Hid ((Try.prog.info? 22).map (·.size) = some (rowV (bF la) 16).size) := Lib.hid (by rw [rowV_size]; exact info16n)
  have HX0 := Lib.hid hx0
  clear hks hmade hb0 hx0 ha ha2 hee hbb hpp hxx h
  generalize rowV (bF la) 16 = xa at *
  go_enter Try.func5, Try.ntmps5
  go_wp2_with (with_reducible refine wpList_load_row rfl 22 (.tmp 2) rfl _ rfl 22 _ _ _ HX0.out Try.underlying22 rfl HIA.out ?_)
  generalize w.alloc (.cells xa 22) = w0 at *
  refine (HMADE.out _).mono ?_
  rintro r w1 ⟨g, bm, rfl, hg, hbm, hs1, hb1⟩
  have HG : Hid (w.heap.size ≤ g ∧ w.heap.size ≤ bm) := Lib.hid (by have := HB0.out.size; omega)
  have HS1 := Lib.hid hs1
  have HB1 := Lib.hid (HB0.out.trans (hb1.mono HB0.out.size))
  clear hs1 hb1 hg hbm HMADE HX0 HIA HB0
  go_wp2
  go_loopw [6, 17] (fun tv iv W => OncR w g ks bm n ee bb pp xx tv iv W) (fun _ iv _ => n - (intOf iv).toNat)
  case atStart => exact ⟨0, false, false, 0, 0, none2, rfl, rfl, by omega, by omega, ⟨fun h => (by cases h), fun h => absurd h Dif.zero⟩, HS1.out, FW_none, InvF.zero, HB1.out⟩
  case round =>
    obtain ⟨k, T, u, te, tb, F, rfl, rfl, hk, hk20, hT, hs, hfw, hinv, hb⟩ := hrel
    have HT := Lib.hid hT
    have HS := Lib.hid hs
    have HFW := Lib.hid hfw
    have HINV := Lib.hid hinv
    have HB := Lib.hid hb
    clear hT hs hfw hinv hb HS1 HB1
    by_cases hlt : k < n
    · obtain ⟨b, o, rfl, hbw, hcell⟩ := HOP.out (by omega)
      have HCELL := Lib.hid hcell
      have HBW := Lib.hid hbw
      obtain ⟨_, q0, q1, q2, q3⟩ := hcell k hlt
      have q0 := (HB.out.cell (p := ⟨b, o + k * 4, none⟩) hbw).trans q0
      have q1 := (HB.out.cell (p := ⟨b, o + k * 4 + 1, none⟩) hbw).trans q1
      have q2 := (HB.out.cell (p := ⟨b, o + k * 4 + 2, none⟩) hbw).trans q2
      have q3 := (HB.out.cell (p := ⟨b, o + k * 4 + 3, none⟩) hbw).trans q3
      clear hcell hbw
      by_cases h20 : k < 20
      · have h20i : ¬ (20 : Int) ≤ (k : Int) := by omega
        have h20j : decide ((20 : Int) ≤ (k : Int)) = false := decide_eq_false h20i
        have hand := HBB.out k
        rw [HEE.out k] at q1
        have HSEALk := Lib.hid (HSEAL.out k hlt)
        have HFULLk := Lib.hid (HFULL.out k hlt)
        obtain ⟨E, hE⟩ : ∃ z, z = ee k := ⟨_, rfl⟩
        obtain ⟨Bk, hBk⟩ : ∃ z, z = bb k := ⟨_, rfl⟩
        rw [← hE] at q1
        rw [← hBk] at hand
        rw [← hE, ← hBk] at HSEALk
        have HE := Lib.hid hE
        have HBk := Lib.hid hBk
        clear hE hBk
        generalize (R k).k = K0 at *
        generalize (R k).b = B0 at *
        generalize hAk : (R k).A = A0 at *
        generalize hnk : (R k).n = n0 at *
        generalize hck : (R k).c = c0 at *
        have HAK := Lib.hid (And.intro hAk (And.intro hnk hck))
        clear hAk hnk hck
        have hb5 := al wr (.cells #[.int .i64 K0, .int .u64 (E : Int), .int .i64 (Bk : Int), .slice A0 n0 c0] TO)
        have HX5 := Lib.hid (heap_alloc_new wr (.cells #[.int .i64 K0, .int .u64 (E : Int), .int .i64 (Bk : Int), .slice A0 n0 c0] TO))
        have HB5 := Lib.hid (HB.out.trans (hb5.mono HB.out.size))
        have HS5 := Lib.hid (HS.out.next hb5)
        have HZ5 : Hid ((wr.alloc (.cells #[.int .i64 K0, .int .u64 (E : Int), .int .i64 (Bk : Int), .slice A0 n0 c0] TO)).heap.size = wr.heap.size + 1) := Lib.hid (by simp)
        have HGP : Hid (g < wr.heap.size ∧ bm < wr.heap.size) := Lib.hid ⟨HS.out.lt, HS.out.ltm⟩
        clear hb5 HS HB
        go_wp2_with fail
        generalize wr.alloc (.cells #[.int .i64 K0, .int .u64 (E : Int), .int .i64 (Bk : Int), .slice A0 n0 c0] TO) = W5 at *
        generalize wr.heap.size = p8 at *
        have HK5 : Hid (∀ W : World, W.heap[p8]? = W5.heap[p8]? → W.cell? ⟨p8, 1, none⟩ = some (.int .u64 (E : Int)) ∧ W.cell? ⟨p8, 2, none⟩ = some (.int .i64 (Bk : Int)) ∧ W.cell? ⟨p8, 3, none⟩ = some (.slice A0 n0 c0)) := Lib.hid (fun W h1 => by
          have hx := h1.trans HX5.out
          exact ⟨blk_cell hx 1, blk_cell hx 2, blk_cell hx 3⟩)
        refine wp_region_F (S := fun (W : World) => W.cell? ⟨p8, 1, none⟩ = some (.int .u64 (E : Int)) ∧ W.cell? ⟨p8, 2, none⟩ = some (.int .i64 (Bk : Int)) ∧ W.cell? ⟨p8, 3, none⟩ = some (.slice A0 n0 c0)) [] (by kernel_rfl) (HK5.out _ rfl) (fun hHeld => ?_)
        refine wpAnyF_take (i := 0) (oi := _) (v := ?_) rfl (by kernel_rfl) (by kernel_rfl) (by kernel_rfl) (by kernel_rfl) (fun _ _ _ h => h) (Or.inl ⟨by rfl, ?_⟩) (by assumption) ?_
        rotate_left 1
        · intro w hSw
          (try dsimp only at hSw)
          (first | (go_simp; done) | (go_simp; with_reducible rfl))
        (try simp only [Act.put, List.getElem_toArray, List.getElem_cons_succ, List.getElem_cons_zero, List.setIfInBounds_toArray, List.set_cons_zero, List.set_cons_succ])
        refine wpAnyF_take (i := 1) (oi := _) (v := ?_) rfl (by kernel_rfl) (by kernel_rfl) (by kernel_rfl) (by kernel_rfl) (fun _ _ _ h => h) (Or.inl ⟨by rfl, ?_⟩) (by assumption) ?_
        rotate_left 1
        · intro w hSw
          (try dsimp only at hSw)
          (first | (go_simp; done) | (go_simp; with_reducible rfl))
        (try simp only [Act.put, List.getElem_toArray, List.getElem_cons_succ, List.getElem_cons_zero, List.setIfInBounds_toArray, List.set_cons_zero, List.set_cons_succ])
        refine wpAnyF_take (i := 2) (oi := _) (v := ?_) rfl (by kernel_rfl) (by kernel_rfl) (by kernel_rfl) (by kernel_rfl) (fun _ _ _ h => h) (Or.inl ⟨by rfl, ?_⟩) (by assumption) ?_
        rotate_left 1
        · intro w hSw
          (try dsimp only at hSw)
          (first | (go_simp; done) | (go_simp; with_reducible rfl))
        (try simp only [Act.put, List.getElem_toArray, List.getElem_cons_succ, List.getElem_cons_zero, List.setIfInBounds_toArray, List.set_cons_zero, List.set_cons_succ])
        refine wpAnyF_take (i := 3) (oi := _) (v := ?_) rfl (by kernel_rfl) (by kernel_rfl) (by kernel_rfl) (by kernel_rfl) (fun _ _ _ h => h) (Or.inl ⟨by rfl, ?_⟩) (by assumption) ?_
        rotate_left 1
        · intro w hSw
          (try dsimp only at hSw)
          (first | (go_simp; done) | (go_simp; with_reducible rfl))
        (try simp only [Act.put, List.getElem_toArray, List.getElem_cons_succ, List.getElem_cons_zero, List.setIfInBounds_toArray, List.set_cons_zero, List.set_cons_succ])
        refine wpAnyF_take (i := 4) (oi := _) (v := ?_) rfl (by kernel_rfl) (by kernel_rfl) (by kernel_rfl) (by kernel_rfl) (fun _ _ _ h => h) (Or.inl ⟨by rfl, ?_⟩) (by assumption) ?_
        rotate_left 1
        · intro w hSw
          (try dsimp only at hSw)
          (first | (go_simp; done) | (go_simp; with_reducible rfl))
        (try simp only [Act.put, List.getElem_toArray, List.getElem_cons_succ, List.getElem_cons_zero, List.setIfInBounds_toArray, List.set_cons_zero, List.set_cons_succ])
        refine wpAnyF_take (i := 5) (oi := _) (v := ?_) rfl (by kernel_rfl) (by kernel_rfl) (by kernel_rfl) (by kernel_rfl) (fun _ _ _ h => h) (Or.inl ⟨by rfl, ?_⟩) (by assumption) ?_
        rotate_left 1
        · intro w hSw
          (try dsimp only at hSw)
          (first | (go_simp; done) | (go_simp; with_reducible rfl))
        (try simp only [Act.put, List.getElem_toArray, List.getElem_cons_succ, List.getElem_cons_zero, List.setIfInBounds_toArray, List.set_cons_zero, List.set_cons_succ])
        refine wpAnyF_take (i := 6) (oi := _) (v := ?_) rfl (by kernel_rfl) (by kernel_rfl) (by kernel_rfl) (by kernel_rfl) (fun _ _ _ h => h) (Or.inl ⟨by rfl, ?_⟩) (by assumption) ?_
        rotate_left 1
        · intro w hSw
          (try dsimp only at hSw)
          (first | (go_simp; done) | (go_simp; with_reducible rfl))
        (try simp only [Act.put, List.getElem_toArray, List.getElem_cons_succ, List.getElem_cons_zero, List.setIfInBounds_toArray, List.set_cons_zero, List.set_cons_succ])
        refine wpAnyF_ready (rs := [7]) (by kernel_rfl) (by simp) ?_
        refine AllReadyF.cons (o := _) rfl (fun K hK => ?_) AllReadyF.nil
        go_simp
        (go_at_call 15)
        refine (HFULLk.out _ HB5.out.drew).mono ?_
        rintro r wf ⟨Af, cf, rfl, hff, _, hfb⟩
        have HFF := Lib.hid hff
        have HFB : Hid (Below W5.heap.size W5 wf) := Lib.hid ((After.drew W5).trans hfb)
        clear hff hfb
        refine hK.out _ _ (HK5.out _ (HFB.out.block _ (blk_lt HX5.out))) (fun hHeld7 => ?_)
        clear hK K
        (try simp only [Act.put, List.getElem_toArray, List.getElem_cons_succ, List.getElem_cons_zero, List.setIfInBounds_toArray, List.set_cons_zero, List.set_cons_succ])
        refine wpAnyF_ready (rs := [8]) (by kernel_rfl) (by simp) ?_
        refine AllReadyF.cons (o := _) rfl (fun K hK => ?_) AllReadyF.nil
        go_simp
        (go_at_call 14)
        refine (HSEALk.out g bm k te tb F u Af cf wf (HS5.out.next HFB.out) HFW.out (by omega) HFF.out).mono ?_
        rintro r w6 ⟨A6, c6, rfl, _, _, ht6, hs6⟩
        have HT6 := Lib.hid ht6
        have HS6 := Lib.hid hs6
        clear ht6 hs6
        have HBK6 : Hid (w6.heap[p8]? = W5.heap[p8]?) := Lib.hid ((HT6.out.block p8 (Nat.lt_of_lt_of_le (blk_lt HX5.out) HFB.out.size) (by have := HGP.out; omega)).trans (HFB.out.block _ (blk_lt HX5.out)))
        refine hK.out _ _ (HK5.out _ HBK6.out) (fun hHeld8 => ?_)
        clear hK K
        (try simp only [Act.put, List.getElem_toArray, List.getElem_cons_succ, List.getElem_cons_zero, List.setIfInBounds_toArray, List.set_cons_zero, List.set_cons_succ])
        refine wpAnyF_done (by kernel_rfl) ?_ _
        have HX6 := Lib.hid (HBK6.out.trans HX5.out)
        have HBF := Lib.hid (HB5.out.trans (HFB.out.mono HB5.out.size))
        have HB6 : Hid (Below w.heap.size w w6) := Lib.hid (HBF.out.trans (HT6.out.below HBF.out.size (fun j hj => by rcases hj with rfl | rfl; exact HG.out.1; exact HG.out.2)))
        have HINV6 : Hid (InvF ee bb pp xx (k + 1) (seenF F E Bk (xx k)) (u || unlF F E Bk (xx k) u)) := Lib.hid (by rw [HE.out, HBk.out]; exact HINV.out.step HXX.out)
        have HFW6 : Hid (FW (seenF F E Bk (xx k))) := Lib.hid (HFW.out.seen E Bk (HXL.out k))
        have e0 : w6.cell? ⟨p8, 1, none⟩ = some (.int .u64 (E : Int)) := blk_cell HX6.out 1
        have e1 : w6.cell? ⟨p8, 2, none⟩ = some (.int .i64 (Bk : Int)) := blk_cell HX6.out 2
        have e2 : w6.cell? ⟨p8, 3, none⟩ = some (.slice A0 n0 c0) := blk_cell HX6.out 3
        generalize seenF F E Bk (xx k) = F6 at *
        generalize (u || unlF F E Bk (xx k) u) = u6 at *
        generalize (if unlF F E Bk (xx k) u then E else te) = te6 at *
        generalize (if unlF F E Bk (xx k) u then Bk else tb) = tb6 at *
        clear hHeld hHeld7 hHeld8 HK5 HBK6 HFF HFB HT6 HS5 HSEALk HINV HFW HX5 HZ5 HB5 HBF q0 q1 q2 q3 hand e0 e1 e2
        have hkc : k ≤ c := by omega
        have hkcI : (k : Int) ≤ (c : Int) := by omega
        go_wp2
        go_loopw [6, 41] (fun tv jv W => ∃ (j : Nat) (y : Bool), jv = .int .i64 (j : Int) ∧ tv = .bool y ∧ j ≤ k ∧ (y = true ↔ T = true ∨ ∃ j', j' < j ∧ Mt ee bb pp k j') ∧ Below w6.heap.size w6 W) (fun _ jv _ => k - (intOf jv).toNat)
        case atStart => exact ⟨0, T, rfl, rfl, by omega, ⟨Or.inl, fun h => h.elim id (fun ⟨_, h, _⟩ => by omega)⟩, Below.refl _ _⟩
        case round =>
          obtain ⟨j, y, rfl, rfl, hjk, hy, hbj⟩ := hrel
          have HY := Lib.hid hy
          have HBJ := Lib.hid hbj
          have HBJw := Lib.hid (HB6.out.trans (hbj.mono HB6.out.size))
          clear hy hbj
          by_cases hj : j < k
          · obtain ⟨_, q0, q1, q2, q3⟩ := HCELL.out j (by omega)
            have q0 := (HBJw.out.cell (p := ⟨b, o + j * 4, none⟩) HBW.out).trans q0
            have q1 := (HBJw.out.cell (p := ⟨b, o + j * 4 + 1, none⟩) HBW.out).trans q1
            have q2 := (HBJw.out.cell (p := ⟨b, o + j * 4 + 2, none⟩) HBW.out).trans q2
            have q3 := (HBJw.out.cell (p := ⟨b, o + j * 4 + 3, none⟩) HBW.out).trans q3
            have hand := HBB.out j
            rw [HEE.out j] at q1
            have HFULLj := Lib.hid (HFULL.out j (by omega))
            obtain ⟨Ej, hE⟩ : ∃ z, z = ee j := ⟨_, rfl⟩
            obtain ⟨Bj, hBj⟩ : ∃ z, z = bb j := ⟨_, rfl⟩
            rw [← hE] at q1
            rw [← hBj] at hand
            have HEj := Lib.hid hE
            have HBj := Lib.hid hBj
            clear hE hBj
            generalize (R j).k = K1 at *
            generalize (R j).b = B1 at *
            generalize (R j).A = A1 at *
            generalize (R j).n = n1 at *
            generalize (R j).c = c1 at *
            have hb7 := al wr (.cells #[.int .i64 K1, .int .u64 (Ej : Int), .int .i64 B1, .slice A1 n1 c1] TO)
            have HX7 := Lib.hid (heap_alloc_new wr (.cells #[.int .i64 K1, .int .u64 (Ej : Int), .int .i64 B1, .slice A1 n1 c1] TO))
            have HB7 := Lib.hid (HBJ.out.trans (hb7.mono HBJ.out.size))
            have HB7w := Lib.hid (HBJw.out.trans (hb7.mono HBJw.out.size))
            have HX67 := Lib.hid ((HB7.out.block p8 (blk_lt HX6.out)).trans HX6.out)
            clear hb7
            go_wp2_with fail
            generalize wr.alloc (.cells #[.int .i64 K1, .int .u64 (Ej : Int), .int .i64 B1, .slice A1 n1 c1] TO) = V at *
            generalize wr.heap.size = p10 at *
            have HK7 : Hid (∀ W : World, Below V.heap.size V W → W.cell? ⟨p8, 1, none⟩ = some (.int .u64 (E : Int)) ∧ W.cell? ⟨p8, 2, none⟩ = some (.int .i64 (Bk : Int)) ∧ W.cell? ⟨p8, 3, none⟩ = some (.slice A0 n0 c0) ∧ W.cell? ⟨p10, 1, none⟩ = some (.int .u64 (Ej : Int)) ∧ W.cell? ⟨p10, 2, none⟩ = some (.int .i64 B1) ∧ W.cell? ⟨p10, 3, none⟩ = some (.slice A1 n1 c1) ∧ Below V.heap.size V W) := Lib.hid (fun W h1 => by
              have hx := (h1.block p8 (blk_lt HX67.out)).trans HX67.out
              have hz := (h1.block p10 (blk_lt HX7.out)).trans HX7.out
              exact ⟨blk_cell hx 1, blk_cell hx 2, blk_cell hx 3, blk_cell hz 1, blk_cell hz 2, blk_cell hz 3, h1⟩)
            have HRD : Hid (∀ (W : World) (y' : Bool), Below V.heap.size V W → (y' = true ↔ T = true ∨ ∃ j', j' < j + 1 ∧ Mt ee bb pp k j') → ∃ (j2 : Nat) (y2 : Bool), Value.int .i64 ((j : Int) + 1) = .int .i64 (j2 : Int) ∧ Value.bool y' = .bool y2 ∧ j2 ≤ k ∧ (y2 = true ↔ T = true ∨ ∃ j', j' < j2 ∧ Mt ee bb pp k j') ∧ Below w6.heap.size w6 W) := Lib.hid (fun W y' h1 h2 => ⟨j + 1, y', by simp, rfl, by omega, h2, HB7.out.trans (h1.mono HB7.out.size)⟩)
            have HYN : Hid (∀ y', (y' = true ↔ (y = true ∨ Mt ee bb pp k j)) → (y' = true ↔ T = true ∨ ∃ j', j' < j + 1 ∧ Mt ee bb pp k j')) := Lib.hid (fun y' h => by
              rw [h, HY.out]
              constructor
              · rintro ((h | ⟨j', h1, h2⟩) | h)
                · exact Or.inl h
                · exact Or.inr ⟨j', by omega, h2⟩
                · exact Or.inr ⟨j, by omega, h⟩
              · rintro (h | ⟨j', h1, h2⟩)
                · exact Or.inl (Or.inl h)
                · rcases (by omega : j' < j ∨ j' = j) with h3 | rfl
                  · exact Or.inl (Or.inr ⟨j', h3, h2⟩)
                  · exact Or.inr h2)
            have HMT : Hid (Mt ee bb pp k j ↔ Ej = E ∧ Bj = Bk ∧ pp j ≠ pp k) := Lib.hid (by unfold Mt; rw [HEj.out, HE.out, HBj.out, HBk.out])
            clear q0 q1 q2 q3 HX7 HX67
            cases y
            · by_cases hEE : Ej = E
              · obtain rfl : E = Ej := hEE.symm
                by_cases hBB : Bj = Bk
                · obtain rfl : Bk = Bj := hBB.symm
                  by_cases hP : pp j = pp k
                  · obtain ⟨s1, hs1⟩ : ∃ z, z = str (pp j) := ⟨_, rfl⟩
                    have HS1q := Lib.hid hs1
                    have HS2q : Hid (s1 = str (pp k)) := Lib.hid (by rw [hs1, hP])
                    clear hs1
                    refine wp_region_F (S := fun (W : World) => W.cell? ⟨p8, 1, none⟩ = some (.int .u64 (E : Int)) ∧ W.cell? ⟨p8, 2, none⟩ = some (.int .i64 (Bk : Int)) ∧ W.cell? ⟨p8, 3, none⟩ = some (.slice A0 n0 c0) ∧ W.cell? ⟨p10, 1, none⟩ = some (.int .u64 (E : Int)) ∧ W.cell? ⟨p10, 2, none⟩ = some (.int .i64 B1) ∧ W.cell? ⟨p10, 3, none⟩ = some (.slice A1 n1 c1) ∧ Below V.heap.size V W) [] (by kernel_rfl) (HK7.out _ ((Below.refl _ _).drew)) (fun hHeld => ?_)
                    refine wpAnyF_take (i := 0) (oi := _) (v := ?_) rfl (by kernel_rfl) (by kernel_rfl) (by kernel_rfl) (by kernel_rfl) (fun _ _ _ h => h) (Or.inl ⟨by rfl, ?_⟩) (by assumption) ?_
                    rotate_left 1
                    · intro w hSw
                      (try dsimp only at hSw)
                      (first | (go_simp; done) | (go_simp; with_reducible rfl))
                    (try simp only [Act.put, List.getElem_toArray, List.getElem_cons_succ, List.getElem_cons_zero, List.setIfInBounds_toArray, List.set_cons_zero, List.set_cons_succ])
                    refine wpAnyF_take (i := 1) (oi := _) (v := ?_) rfl (by kernel_rfl) (by kernel_rfl) (by kernel_rfl) (by kernel_rfl) (fun _ _ _ h => h) (Or.inl ⟨by rfl, ?_⟩) (by assumption) ?_
                    rotate_left 1
                    · intro w hSw
                      (try dsimp only at hSw)
                      (first | (go_simp; done) | (go_simp; with_reducible rfl))
                    (try simp only [Act.put, List.getElem_toArray, List.getElem_cons_succ, List.getElem_cons_zero, List.setIfInBounds_toArray, List.set_cons_zero, List.set_cons_succ])
                    refine wpAnyF_take (i := 2) (oi := _) (v := ?_) rfl (by kernel_rfl) (by kernel_rfl) (by kernel_rfl) (by kernel_rfl) (fun _ _ _ h => h) (Or.inl ⟨by rfl, ?_⟩) (by assumption) ?_
                    rotate_left 1
                    · intro w hSw
                      (try dsimp only at hSw)
                      (first | (go_simp; done) | (go_simp; with_reducible rfl))
                    (try simp only [Act.put, List.getElem_toArray, List.getElem_cons_succ, List.getElem_cons_zero, List.setIfInBounds_toArray, List.set_cons_zero, List.set_cons_succ])
                    refine wpAnyF_take (i := 3) (oi := _) (v := ?_) rfl (by kernel_rfl) (by kernel_rfl) (by kernel_rfl) (by kernel_rfl) (fun _ _ _ h => h) (Or.inl ⟨by rfl, ?_⟩) (by assumption) ?_
                    rotate_left 1
                    · intro w hSw
                      (try dsimp only at hSw)
                      (first | (go_simp; done) | (go_simp; with_reducible rfl))
                    (try simp only [Act.put, List.getElem_toArray, List.getElem_cons_succ, List.getElem_cons_zero, List.setIfInBounds_toArray, List.set_cons_zero, List.set_cons_succ])
                    refine wpAnyF_take (i := 4) (oi := _) (v := ?_) rfl (by kernel_rfl) (by kernel_rfl) (by kernel_rfl) (by kernel_rfl) (fun _ _ _ h => h) (Or.inl ⟨by rfl, ?_⟩) (by assumption) ?_
                    rotate_left 1
                    · intro w hSw
                      (try dsimp only at hSw)
                      (first | (go_simp; done) | (go_simp; with_reducible rfl))
                    (try simp only [Act.put, List.getElem_toArray, List.getElem_cons_succ, List.getElem_cons_zero, List.setIfInBounds_toArray, List.set_cons_zero, List.set_cons_succ])
                    refine wpAnyF_take (i := 5) (oi := _) (v := ?_) rfl (by kernel_rfl) (by kernel_rfl) (by kernel_rfl) (by kernel_rfl) (fun _ _ _ h => h) (Or.inl ⟨by rfl, ?_⟩) (by assumption) ?_
                    rotate_left 1
                    · intro w hSw
                      (try dsimp only at hSw)
                      (first | (go_simp; done) | (go_simp; with_reducible rfl))
                    (try simp only [Act.put, List.getElem_toArray, List.getElem_cons_succ, List.getElem_cons_zero, List.setIfInBounds_toArray, List.set_cons_zero, List.set_cons_succ])
                    refine wpAnyF_take (i := 6) (oi := _) (v := ?_) rfl (by kernel_rfl) (by kernel_rfl) (by kernel_rfl) (by kernel_rfl) (fun _ _ _ h => h) (Or.inl ⟨by rfl, ?_⟩) (by assumption) ?_
                    rotate_left 1
                    · intro w hSw
                      (try dsimp only at hSw)
                      (first | (go_simp; done) | (go_simp; with_reducible rfl))
                    (try simp only [Act.put, List.getElem_toArray, List.getElem_cons_succ, List.getElem_cons_zero, List.setIfInBounds_toArray, List.set_cons_zero, List.set_cons_succ])
                    refine wpAnyF_take (i := 7) (oi := _) (v := ?_) rfl (by kernel_rfl) (by kernel_rfl) (by kernel_rfl) (by kernel_rfl) (fun _ _ _ h => h) (Or.inl ⟨by rfl, ?_⟩) (by assumption) ?_
                    rotate_left 1
                    · intro w hSw
                      (try dsimp only at hSw)
                      (first | (go_simp; done) | (go_simp; with_reducible rfl))
                    (try simp only [Act.put, List.getElem_toArray, List.getElem_cons_succ, List.getElem_cons_zero, List.setIfInBounds_toArray, List.set_cons_zero, List.set_cons_succ])
                    refine wpAnyF_take (i := 8) (oi := _) (v := ?_) rfl (by kernel_rfl) (by kernel_rfl) (by kernel_rfl) (by kernel_rfl) (fun _ _ _ h => h) (Or.inl ⟨by rfl, ?_⟩) (by assumption) ?_
                    rotate_left 1
                    · intro w hSw
                      (try dsimp only at hSw)
                      (first | (go_simp; done) | (go_simp; with_reducible rfl))
                    (try simp only [Act.put, List.getElem_toArray, List.getElem_cons_succ, List.getElem_cons_zero, List.setIfInBounds_toArray, List.set_cons_zero, List.set_cons_succ])
                    refine wpAnyF_take (i := 9) (oi := _) (v := ?_) rfl (by kernel_rfl) (by kernel_rfl) (by kernel_rfl) (by kernel_rfl) (fun _ _ _ h => h) (Or.inl ⟨by rfl, ?_⟩) (by assumption) ?_
                    rotate_left 1
                    · intro w hSw
                      (try dsimp only at hSw)
                      (first | (go_simp; done) | (go_simp; with_reducible rfl))
                    (try simp only [Act.put, List.getElem_toArray, List.getElem_cons_succ, List.getElem_cons_zero, List.setIfInBounds_toArray, List.set_cons_zero, List.set_cons_succ])
                    refine wpAnyF_take (i := 10) (oi := _) (v := ?_) rfl (by kernel_rfl) (by kernel_rfl) (by kernel_rfl) (by kernel_rfl) (fun _ _ _ h => h) (Or.inl ⟨by rfl, ?_⟩) (by assumption) ?_
                    rotate_left 1
                    · intro w hSw
                      (try dsimp only at hSw)
                      (first | (go_simp; done) | (go_simp; with_reducible rfl))
                    (try simp only [Act.put, List.getElem_toArray, List.getElem_cons_succ, List.getElem_cons_zero, List.setIfInBounds_toArray, List.set_cons_zero, List.set_cons_succ])
                    refine wpAnyF_take (i := 11) (oi := _) (v := ?_) rfl (by kernel_rfl) (by kernel_rfl) (by kernel_rfl) (by kernel_rfl) (fun _ _ _ h => h) (Or.inl ⟨by rfl, ?_⟩) (by assumption) ?_
                    rotate_left 1
                    · intro w hSw
                      (try dsimp only at hSw)
                      (first | (go_simp; done) | (go_simp; with_reducible rfl))
                    (try simp only [Act.put, List.getElem_toArray, List.getElem_cons_succ, List.getElem_cons_zero, List.setIfInBounds_toArray, List.set_cons_zero, List.set_cons_succ])
                    refine wpAnyF_take (i := 12) (oi := _) (v := ?_) rfl (by kernel_rfl) (by kernel_rfl) (by kernel_rfl) (by kernel_rfl) (fun _ _ _ h => h) (Or.inl ⟨by rfl, ?_⟩) (by assumption) ?_
                    rotate_left 1
                    · intro w hSw
                      (try dsimp only at hSw)
                      (first | (go_simp; done) | (go_simp; with_reducible rfl))
                    (try simp only [Act.put, List.getElem_toArray, List.getElem_cons_succ, List.getElem_cons_zero, List.setIfInBounds_toArray, List.set_cons_zero, List.set_cons_succ])
                    refine wpAnyF_take (i := 13) (oi := _) (v := ?_) rfl (by kernel_rfl) (by kernel_rfl) (by kernel_rfl) (by kernel_rfl) (fun _ _ _ h => h) (Or.inl ⟨by rfl, ?_⟩) (by assumption) ?_
                    rotate_left 1
                    · intro w hSw
                      (try dsimp only at hSw)
                      (first | (go_simp; done) | (go_simp; with_reducible rfl))
                    (try simp only [Act.put, List.getElem_toArray, List.getElem_cons_succ, List.getElem_cons_zero, List.setIfInBounds_toArray, List.set_cons_zero, List.set_cons_succ])
                    refine wpAnyF_take (i := 14) (oi := _) (v := ?_) rfl (by kernel_rfl) (by kernel_rfl) (by kernel_rfl) (by kernel_rfl) (fun _ _ _ h => h) (Or.inl ⟨by rfl, ?_⟩) (by assumption) ?_
                    rotate_left 1
                    · intro w hSw
                      (try dsimp only at hSw)
                      (first | (go_simp; done) | (go_simp; with_reducible rfl))
                    (try simp only [Act.put, List.getElem_toArray, List.getElem_cons_succ, List.getElem_cons_zero, List.setIfInBounds_toArray, List.set_cons_zero, List.set_cons_succ])
                    refine wpAnyF_take (i := 15) (oi := _) (v := ?_) rfl (by kernel_rfl) (by kernel_rfl) (by kernel_rfl) (by kernel_rfl) (fun _ _ _ h => h) (Or.inl ⟨by rfl, ?_⟩) (by assumption) ?_
                    rotate_left 1
                    · intro w hSw
                      (try dsimp only at hSw)
                      (first | (go_simp; done) | (go_simp; with_reducible rfl))
                    (try simp only [Act.put, List.getElem_toArray, List.getElem_cons_succ, List.getElem_cons_zero, List.setIfInBounds_toArray, List.set_cons_zero, List.set_cons_succ])
                    refine wpAnyF_take (i := 16) (oi := _) (v := ?_) rfl (by kernel_rfl) (by kernel_rfl) (by kernel_rfl) (by kernel_rfl) (fun _ _ _ h => h) (Or.inl ⟨by rfl, ?_⟩) (by assumption) ?_
                    rotate_left 1
                    · intro w hSw
                      (try dsimp only at hSw)
                      (first | (go_simp; done) | (go_simp; with_reducible rfl))
                    (try simp only [Act.put, List.getElem_toArray, List.getElem_cons_succ, List.getElem_cons_zero, List.setIfInBounds_toArray, List.set_cons_zero, List.set_cons_succ])
                    refine wpAnyF_take (i := 17) (oi := _) (v := ?_) rfl (by kernel_rfl) (by kernel_rfl) (by kernel_rfl) (by kernel_rfl) (fun _ _ _ h => h) (Or.inl ⟨by rfl, ?_⟩) (by assumption) ?_
                    rotate_left 1
                    · intro w hSw
                      (try dsimp only at hSw)
                      (first | (go_simp; done) | (go_simp; with_reducible rfl))
                    (try simp only [Act.put, List.getElem_toArray, List.getElem_cons_succ, List.getElem_cons_zero, List.setIfInBounds_toArray, List.set_cons_zero, List.set_cons_succ])
                    refine wpAnyF_take (i := 20) (oi := _) (v := ?_) rfl (by kernel_rfl) (by kernel_rfl) (by kernel_rfl) (by kernel_rfl) (fun _ _ _ h => h) (Or.inl ⟨by rfl, ?_⟩) (by assumption) ?_
                    rotate_left 1
                    · intro w hSw
                      (try dsimp only at hSw)
                      (first | (go_simp; done) | (go_simp; with_reducible rfl))
                    (try simp only [Act.put, List.getElem_toArray, List.getElem_cons_succ, List.getElem_cons_zero, List.setIfInBounds_toArray, List.set_cons_zero, List.set_cons_succ])
                    refine wpAnyF_take (i := 21) (oi := _) (v := ?_) rfl (by kernel_rfl) (by kernel_rfl) (by kernel_rfl) (by kernel_rfl) (fun _ _ _ h => h) (Or.inl ⟨by rfl, ?_⟩) (by assumption) ?_
                    rotate_left 1
                    · intro w hSw
                      (try dsimp only at hSw)
                      (first | (go_simp; done) | (go_simp; with_reducible rfl))
                    (try simp only [Act.put, List.getElem_toArray, List.getElem_cons_succ, List.getElem_cons_zero, List.setIfInBounds_toArray, List.set_cons_zero, List.set_cons_succ])
                    refine wpAnyF_ready (rs := [18]) (by kernel_rfl) (by simp) ?_
                    refine AllReadyF.cons (o := _) rfl (fun K hK => ?_) AllReadyF.nil
                    go_simp
                    (go_at_call 15)
                    refine (HFULLj.out _ (HB7w.out.trans (hHeld.2.2.2.2.2.2.mono HB7w.out.size))).mono ?_
                    rintro r wf0 ⟨Af0, cf0, rfl, hff0, _, hfb0⟩
                    have HFB0 : Hid (Below V.heap.size V wf0) := Lib.hid (hHeld.2.2.2.2.2.2.trans (hfb0.mono hHeld.2.2.2.2.2.2.size))
                    have HFF0 := Lib.hid hff0
                    clear hff0 hfb0
                    refine hK.out _ _ (HK7.out _ HFB0.out) (fun hHeld18 => ?_)
                    clear hK K
                    (try simp only [Act.put, List.getElem_toArray, List.getElem_cons_succ, List.getElem_cons_zero, List.setIfInBounds_toArray, List.set_cons_zero, List.set_cons_succ])
                    refine wpAnyF_ready (rs := [19, 22]) (by kernel_rfl) (by simp) ?_
                    refine AllReadyF.cons (o := _) rfl (fun K hK => ?_) (AllReadyF.cons (o := _) rfl (fun K hK => ?_) AllReadyF.nil)
                    · have hcv : (convert 29 9 (.slice Af0 256 cf0)).run Try.prog wf0 = .ok (.string s1) wf0 := by rw [HS1q.out]; exact HFF0.out.conv 29 5 9 Try.underlying29 Try.underlying5 Try.underlying9
                      go_simp
                      clear hcv
                      refine hK.out _ _ (HK7.out _ HFB0.out) (fun hHeld19 => ?_)
                      clear hK K
                      (try simp only [Act.put, List.getElem_toArray, List.getElem_cons_succ, List.getElem_cons_zero, List.setIfInBounds_toArray, List.set_cons_zero, List.set_cons_succ])
                      refine wpAnyF_ready (rs := [22]) (by kernel_rfl) (by simp) ?_
                      refine AllReadyF.cons (o := _) rfl (fun K hK => ?_) AllReadyF.nil
                      go_simp
                      (go_at_call 15)
                      refine (HFULLk.out _ (HB7w.out.trans (HFB0.out.mono HB7w.out.size))).mono ?_
                      rintro r wf1 ⟨Af1, cf1, rfl, hff1, _, hfb1⟩
                      have HFB1 : Hid (Below V.heap.size V wf1) := Lib.hid (HFB0.out.trans (hfb1.mono HFB0.out.size))
                      have HFF1 := Lib.hid hff1
                      have HF01 := Lib.hid ((HFF0.out.below hfb1).more hfb1.size)
                      clear hff1 hfb1
                      refine hK.out _ _ (HK7.out _ HFB1.out) (fun hHeld22 => ?_)
                      clear hK K
                      (try simp only [Act.put, List.getElem_toArray, List.getElem_cons_succ, List.getElem_cons_zero, List.setIfInBounds_toArray, List.set_cons_zero, List.set_cons_succ])
                      refine wpAnyF_ready (rs := [23]) (by kernel_rfl) (by simp) ?_
                      refine AllReadyF.cons (o := _) rfl (fun K hK => ?_) AllReadyF.nil
                      have hcv : (convert 29 9 (.slice Af1 256 cf1)).run Try.prog wf1 = .ok (.string s1) wf1 := by rw [HS2q.out]; exact HFF1.out.conv 29 5 9 Try.underlying29 Try.underlying5 Try.underlying9
                      go_simp
                      clear hcv
                      refine hK.out _ _ (HK7.out _ HFB1.out) (fun hHeld23 => ?_)
                      clear hK K
                      (try simp only [Act.put, List.getElem_toArray, List.getElem_cons_succ, List.getElem_cons_zero, List.setIfInBounds_toArray, List.set_cons_zero, List.set_cons_succ])
                      refine wpAnyF_take (i := 24) (oi := _) (v := ?_) rfl (by kernel_rfl) (by kernel_rfl) (by kernel_rfl) (by kernel_rfl) (fun _ _ _ h => h) (Or.inl ⟨by rfl, ?_⟩) (by assumption) ?_
                      rotate_left 1
                      · intro w hSw
                        (try dsimp only at hSw)
                        (first | (go_simp; done) | (go_simp; with_reducible rfl))
                      (try simp only [Act.put, List.getElem_toArray, List.getElem_cons_succ, List.getElem_cons_zero, List.setIfInBounds_toArray, List.set_cons_zero, List.set_cons_succ])
                      refine wpAnyF_take (i := 25) (oi := _) (v := ?_) rfl (by kernel_rfl) (by kernel_rfl) (by kernel_rfl) (by kernel_rfl) (fun _ _ _ h => h) (Or.inl ⟨by rfl, ?_⟩) (by assumption) ?_
                      rotate_left 1
                      · intro w hSw
                        (try dsimp only at hSw)
                        (first | (go_simp; done) | (go_simp; with_reducible rfl))
                      (try simp only [Act.put, List.getElem_toArray, List.getElem_cons_succ, List.getElem_cons_zero, List.setIfInBounds_toArray, List.set_cons_zero, List.set_cons_succ])
                      refine wpAnyF_take (i := 26) (oi := _) (v := ?_) rfl (by kernel_rfl) (by kernel_rfl) (by kernel_rfl) (by kernel_rfl) (fun _ _ _ h => h) (Or.inl ⟨by rfl, ?_⟩) (by assumption) ?_
                      rotate_left 1
                      · intro w hSw
                        (try dsimp only at hSw)
                        (first | (go_simp; done) | (go_simp; with_reducible rfl))
                      (try simp only [Act.put, List.getElem_toArray, List.getElem_cons_succ, List.getElem_cons_zero, List.setIfInBounds_toArray, List.set_cons_zero, List.set_cons_succ])
                      refine wpAnyF_take (i := 27) (oi := _) (v := ?_) rfl (by kernel_rfl) (by kernel_rfl) (by kernel_rfl) (by kernel_rfl) (fun _ _ _ h => h) (Or.inl ⟨by rfl, ?_⟩) (by assumption) ?_
                      rotate_left 1
                      · intro w hSw
                        (try dsimp only at hSw)
                        (first | (go_simp; done) | (go_simp; with_reducible rfl))
                      (try simp only [Act.put, List.getElem_toArray, List.getElem_cons_succ, List.getElem_cons_zero, List.setIfInBounds_toArray, List.set_cons_zero, List.set_cons_succ])
                      refine wpAnyF_done (by kernel_rfl) ?_ _
                      have HLAST := Lib.hid (HRD.out _ false HFB1.out (HYN.out false ⟨fun h => (by cases h), fun h => h.elim id (fun h => absurd hP (HMT.out.1 h).2.2)⟩))
                      go_wp2
                      go_roundw
                      case rel => exact HLAST.out
                      case measure => simp [intOf]; omega
                    · go_simp
                      (go_at_call 15)
                      refine (HFULLk.out _ (HB7w.out.trans (HFB0.out.mono HB7w.out.size))).mono ?_
                      rintro r wf1 ⟨Af1, cf1, rfl, hff1, _, hfb1⟩
                      have HFB1 : Hid (Below V.heap.size V wf1) := Lib.hid (HFB0.out.trans (hfb1.mono HFB0.out.size))
                      have HFF1 := Lib.hid hff1
                      have HF01 := Lib.hid ((HFF0.out.below hfb1).more hfb1.size)
                      clear hff1 hfb1
                      refine hK.out _ _ (HK7.out _ HFB1.out) (fun hHeld22 => ?_)
                      clear hK K
                      (try simp only [Act.put, List.getElem_toArray, List.getElem_cons_succ, List.getElem_cons_zero, List.setIfInBounds_toArray, List.set_cons_zero, List.set_cons_succ])
                      refine wpAnyF_ready (rs := [19, 23]) (by kernel_rfl) (by simp) ?_
                      refine AllReadyF.cons (o := _) rfl (fun K hK => ?_) (AllReadyF.cons (o := _) rfl (fun K hK => ?_) AllReadyF.nil)
                      · have hcv : (convert 29 9 (.slice Af0 256 cf0)).run Try.prog wf1 = .ok (.string s1) wf1 := by rw [HS1q.out]; exact HF01.out.conv 29 5 9 Try.underlying29 Try.underlying5 Try.underlying9
                        go_simp
                        clear hcv
                        refine hK.out _ _ (HK7.out _ HFB1.out) (fun hHeld19 => ?_)
                        clear hK K
                        (try simp only [Act.put, List.getElem_toArray, List.getElem_cons_succ, List.getElem_cons_zero, List.setIfInBounds_toArray, List.set_cons_zero, List.set_cons_succ])
                        refine wpAnyF_ready (rs := [23]) (by kernel_rfl) (by simp) ?_
                        refine AllReadyF.cons (o := _) rfl (fun K hK => ?_) AllReadyF.nil
                        have hcv : (convert 29 9 (.slice Af1 256 cf1)).run Try.prog wf1 = .ok (.string s1) wf1 := by rw [HS2q.out]; exact HFF1.out.conv 29 5 9 Try.underlying29 Try.underlying5 Try.underlying9
                        go_simp
                        clear hcv
                        refine hK.out _ _ (HK7.out _ HFB1.out) (fun hHeld23 => ?_)
                        clear hK K
                        (try simp only [Act.put, List.getElem_toArray, List.getElem_cons_succ, List.getElem_cons_zero, List.setIfInBounds_toArray, List.set_cons_zero, List.set_cons_succ])
                        refine wpAnyF_take (i := 24) (oi := _) (v := ?_) rfl (by kernel_rfl) (by kernel_rfl) (by kernel_rfl) (by kernel_rfl) (fun _ _ _ h => h) (Or.inl ⟨by rfl, ?_⟩) (by assumption) ?_
                        rotate_left 1
                        · intro w hSw
                          (try dsimp only at hSw)
                          (first | (go_simp; done) | (go_simp; with_reducible rfl))
                        (try simp only [Act.put, List.getElem_toArray, List.getElem_cons_succ, List.getElem_cons_zero, List.setIfInBounds_toArray, List.set_cons_zero, List.set_cons_succ])
                        refine wpAnyF_take (i := 25) (oi := _) (v := ?_) rfl (by kernel_rfl) (by kernel_rfl) (by kernel_rfl) (by kernel_rfl) (fun _ _ _ h => h) (Or.inl ⟨by rfl, ?_⟩) (by assumption) ?_
                        rotate_left 1
                        · intro w hSw
                          (try dsimp only at hSw)
                          (first | (go_simp; done) | (go_simp; with_reducible rfl))
                        (try simp only [Act.put, List.getElem_toArray, List.getElem_cons_succ, List.getElem_cons_zero, List.setIfInBounds_toArray, List.set_cons_zero, List.set_cons_succ])
                        refine wpAnyF_take (i := 26) (oi := _) (v := ?_) rfl (by kernel_rfl) (by kernel_rfl) (by kernel_rfl) (by kernel_rfl) (fun _ _ _ h => h) (Or.inl ⟨by rfl, ?_⟩) (by assumption) ?_
                        rotate_left 1
                        · intro w hSw
                          (try dsimp only at hSw)
                          (first | (go_simp; done) | (go_simp; with_reducible rfl))
                        (try simp only [Act.put, List.getElem_toArray, List.getElem_cons_succ, List.getElem_cons_zero, List.setIfInBounds_toArray, List.set_cons_zero, List.set_cons_succ])
                        refine wpAnyF_take (i := 27) (oi := _) (v := ?_) rfl (by kernel_rfl) (by kernel_rfl) (by kernel_rfl) (by kernel_rfl) (fun _ _ _ h => h) (Or.inl ⟨by rfl, ?_⟩) (by assumption) ?_
                        rotate_left 1
                        · intro w hSw
                          (try dsimp only at hSw)
                          (first | (go_simp; done) | (go_simp; with_reducible rfl))
                        (try simp only [Act.put, List.getElem_toArray, List.getElem_cons_succ, List.getElem_cons_zero, List.setIfInBounds_toArray, List.set_cons_zero, List.set_cons_succ])
                        refine wpAnyF_done (by kernel_rfl) ?_ _
                        have HLAST := Lib.hid (HRD.out _ false HFB1.out (HYN.out false ⟨fun h => (by cases h), fun h => h.elim id (fun h => absurd hP (HMT.out.1 h).2.2)⟩))
                        go_wp2
                        go_roundw
                        case rel => exact HLAST.out
                        case measure => simp [intOf]; omega
                      · have hcv : (convert 29 9 (.slice Af1 256 cf1)).run Try.prog wf1 = .ok (.string s1) wf1 := by rw [HS2q.out]; exact HFF1.out.conv 29 5 9 Try.underlying29 Try.underlying5 Try.underlying9
                        go_simp
                        clear hcv
                        refine hK.out _ _ (HK7.out _ HFB1.out) (fun hHeld23 => ?_)
                        clear hK K
                        (try simp only [Act.put, List.getElem_toArray, List.getElem_cons_succ, List.getElem_cons_zero, List.setIfInBounds_toArray, List.set_cons_zero, List.set_cons_succ])
                        refine wpAnyF_ready (rs := [19]) (by kernel_rfl) (by simp) ?_
                        refine AllReadyF.cons (o := _) rfl (fun K hK => ?_) AllReadyF.nil
                        have hcv : (convert 29 9 (.slice Af0 256 cf0)).run Try.prog wf1 = .ok (.string s1) wf1 := by rw [HS1q.out]; exact HF01.out.conv 29 5 9 Try.underlying29 Try.underlying5 Try.underlying9
                        go_simp
                        clear hcv
                        refine hK.out _ _ (HK7.out _ HFB1.out) (fun hHeld19 => ?_)
                        clear hK K
                        (try simp only [Act.put, List.getElem_toArray, List.getElem_cons_succ, List.getElem_cons_zero, List.setIfInBounds_toArray, List.set_cons_zero, List.set_cons_succ])
                        refine wpAnyF_take (i := 24) (oi := _) (v := ?_) rfl (by kernel_rfl) (by kernel_rfl) (by kernel_rfl) (by kernel_rfl) (fun _ _ _ h => h) (Or.inl ⟨by rfl, ?_⟩) (by assumption) ?_
                        rotate_left 1
                        · intro w hSw
                          (try dsimp only at hSw)
                          (first | (go_simp; done) | (go_simp; with_reducible rfl))
                        (try simp only [Act.put, List.getElem_toArray, List.getElem_cons_succ, List.getElem_cons_zero, List.setIfInBounds_toArray, List.set_cons_zero, List.set_cons_succ])
                        refine wpAnyF_take (i := 25) (oi := _) (v := ?_) rfl (by kernel_rfl) (by kernel_rfl) (by kernel_rfl) (by kernel_rfl) (fun _ _ _ h => h) (Or.inl ⟨by rfl, ?_⟩) (by assumption) ?_
                        rotate_left 1
                        · intro w hSw
                          (try dsimp only at hSw)
                          (first | (go_simp; done) | (go_simp; with_reducible rfl))
                        (try simp only [Act.put, List.getElem_toArray, List.getElem_cons_succ, List.getElem_cons_zero, List.setIfInBounds_toArray, List.set_cons_zero, List.set_cons_succ])
                        refine wpAnyF_take (i := 26) (oi := _) (v := ?_) rfl (by kernel_rfl) (by kernel_rfl) (by kernel_rfl) (by kernel_rfl) (fun _ _ _ h => h) (Or.inl ⟨by rfl, ?_⟩) (by assumption) ?_
                        rotate_left 1
                        · intro w hSw
                          (try dsimp only at hSw)
                          (first | (go_simp; done) | (go_simp; with_reducible rfl))
                        (try simp only [Act.put, List.getElem_toArray, List.getElem_cons_succ, List.getElem_cons_zero, List.setIfInBounds_toArray, List.set_cons_zero, List.set_cons_succ])
                        refine wpAnyF_take (i := 27) (oi := _) (v := ?_) rfl (by kernel_rfl) (by kernel_rfl) (by kernel_rfl) (by kernel_rfl) (fun _ _ _ h => h) (Or.inl ⟨by rfl, ?_⟩) (by assumption) ?_
                        rotate_left 1
                        · intro w hSw
                          (try dsimp only at hSw)
                          (first | (go_simp; done) | (go_simp; with_reducible rfl))
                        (try simp only [Act.put, List.getElem_toArray, List.getElem_cons_succ, List.getElem_cons_zero, List.setIfInBounds_toArray, List.set_cons_zero, List.set_cons_succ])
                        refine wpAnyF_done (by kernel_rfl) ?_ _
                        have HLAST := Lib.hid (HRD.out _ false HFB1.out (HYN.out false ⟨fun h => (by cases h), fun h => h.elim id (fun h => absurd hP (HMT.out.1 h).2.2)⟩))
                        go_wp2
                        go_roundw
                        case rel => exact HLAST.out
                        case measure => simp [intOf]; omega

                  · obtain ⟨s1, hs1⟩ : ∃ z, z = str (pp j) := ⟨_, rfl⟩
                    obtain ⟨s2, hs2⟩ : ∃ z, z = str (pp k) := ⟨_, rfl⟩
                    have HS1q := Lib.hid hs1
                    have HS2q := Lib.hid hs2
                    have hne : (s1.toList == s2.toList) = false := by rw [hs1, hs2]; exact str_ne (HPB.out j (by omega)) (HPB.out k hlt) hP
                    clear hs1 hs2
                    refine wp_region_F (S := fun (W : World) => W.cell? ⟨p8, 1, none⟩ = some (.int .u64 (E : Int)) ∧ W.cell? ⟨p8, 2, none⟩ = some (.int .i64 (Bk : Int)) ∧ W.cell? ⟨p8, 3, none⟩ = some (.slice A0 n0 c0) ∧ W.cell? ⟨p10, 1, none⟩ = some (.int .u64 (E : Int)) ∧ W.cell? ⟨p10, 2, none⟩ = some (.int .i64 B1) ∧ W.cell? ⟨p10, 3, none⟩ = some (.slice A1 n1 c1) ∧ Below V.heap.size V W) [] (by kernel_rfl) (HK7.out _ ((Below.refl _ _).drew)) (fun hHeld => ?_)
                    refine wpAnyF_take (i := 0) (oi := _) (v := ?_) rfl (by kernel_rfl) (by kernel_rfl) (by kernel_rfl) (by kernel_rfl) (fun _ _ _ h => h) (Or.inl ⟨by rfl, ?_⟩) (by assumption) ?_
                    rotate_left 1
                    · intro w hSw
                      (try dsimp only at hSw)
                      (first | (go_simp; done) | (go_simp; with_reducible rfl))
                    (try simp only [Act.put, List.getElem_toArray, List.getElem_cons_succ, List.getElem_cons_zero, List.setIfInBounds_toArray, List.set_cons_zero, List.set_cons_succ])
                    refine wpAnyF_take (i := 1) (oi := _) (v := ?_) rfl (by kernel_rfl) (by kernel_rfl) (by kernel_rfl) (by kernel_rfl) (fun _ _ _ h => h) (Or.inl ⟨by rfl, ?_⟩) (by assumption) ?_
                    rotate_left 1
                    · intro w hSw
                      (try dsimp only at hSw)
                      (first | (go_simp; done) | (go_simp; with_reducible rfl))
                    (try simp only [Act.put, List.getElem_toArray, List.getElem_cons_succ, List.getElem_cons_zero, List.setIfInBounds_toArray, List.set_cons_zero, List.set_cons_succ])
                    refine wpAnyF_take (i := 2) (oi := _) (v := ?_) rfl (by kernel_rfl) (by kernel_rfl) (by kernel_rfl) (by kernel_rfl) (fun _ _ _ h => h) (Or.inl ⟨by rfl, ?_⟩) (by assumption) ?_
                    rotate_left 1
                    · intro w hSw
                      (try dsimp only at hSw)
                      (first | (go_simp; done) | (go_simp; with_reducible rfl))
                    (try simp only [Act.put, List.getElem_toArray, List.getElem_cons_succ, List.getElem_cons_zero, List.setIfInBounds_toArray, List.set_cons_zero, List.set_cons_succ])
                    refine wpAnyF_take (i := 3) (oi := _) (v := ?_) rfl (by kernel_rfl) (by kernel_rfl) (by kernel_rfl) (by kernel_rfl) (fun _ _ _ h => h) (Or.inl ⟨by rfl, ?_⟩) (by assumption) ?_
                    rotate_left 1
                    · intro w hSw
                      (try dsimp only at hSw)
                      (first | (go_simp; done) | (go_simp; with_reducible rfl))
                    (try simp only [Act.put, List.getElem_toArray, List.getElem_cons_succ, List.getElem_cons_zero, List.setIfInBounds_toArray, List.set_cons_zero, List.set_cons_succ])
                    refine wpAnyF_take (i := 4) (oi := _) (v := ?_) rfl (by kernel_rfl) (by kernel_rfl) (by kernel_rfl) (by kernel_rfl) (fun _ _ _ h => h) (Or.inl ⟨by rfl, ?_⟩) (by assumption) ?_
                    rotate_left 1
                    · intro w hSw
                      (try dsimp only at hSw)
                      (first | (go_simp; done) | (go_simp; with_reducible rfl))
                    (try simp only [Act.put, List.getElem_toArray, List.getElem_cons_succ, List.getElem_cons_zero, List.setIfInBounds_toArray, List.set_cons_zero, List.set_cons_succ])
                    refine wpAnyF_take (i := 5) (oi := _) (v := ?_) rfl (by kernel_rfl) (by kernel_rfl) (by kernel_rfl) (by kernel_rfl) (fun _ _ _ h => h) (Or.inl ⟨by rfl, ?_⟩) (by assumption) ?_
                    rotate_left 1
                    · intro w hSw
                      (try dsimp only at hSw)
                      (first | (go_simp; done) | (go_simp; with_reducible rfl))
                    (try simp only [Act.put, List.getElem_toArray, List.getElem_cons_succ, List.getElem_cons_zero, List.setIfInBounds_toArray, List.set_cons_zero, List.set_cons_succ])
                    refine wpAnyF_take (i := 6) (oi := _) (v := ?_) rfl (by kernel_rfl) (by kernel_rfl) (by kernel_rfl) (by kernel_rfl) (fun _ _ _ h => h) (Or.inl ⟨by rfl, ?_⟩) (by assumption) ?_
                    rotate_left 1
                    · intro w hSw
                      (try dsimp only at hSw)
                      (first | (go_simp; done) | (go_simp; with_reducible rfl))
                    (try simp only [Act.put, List.getElem_toArray, List.getElem_cons_succ, List.getElem_cons_zero, List.setIfInBounds_toArray, List.set_cons_zero, List.set_cons_succ])
                    refine wpAnyF_take (i := 7) (oi := _) (v := ?_) rfl (by kernel_rfl) (by kernel_rfl) (by kernel_rfl) (by kernel_rfl) (fun _ _ _ h => h) (Or.inl ⟨by rfl, ?_⟩) (by assumption) ?_
                    rotate_left 1
                    · intro w hSw
                      (try dsimp only at hSw)
                      (first | (go_simp; done) | (go_simp; with_reducible rfl))
                    (try simp only [Act.put, List.getElem_toArray, List.getElem_cons_succ, List.getElem_cons_zero, List.setIfInBounds_toArray, List.set_cons_zero, List.set_cons_succ])
                    refine wpAnyF_take (i := 8) (oi := _) (v := ?_) rfl (by kernel_rfl) (by kernel_rfl) (by kernel_rfl) (by kernel_rfl) (fun _ _ _ h => h) (Or.inl ⟨by rfl, ?_⟩) (by assumption) ?_
                    rotate_left 1
                    · intro w hSw
                      (try dsimp only at hSw)
                      (first | (go_simp; done) | (go_simp; with_reducible rfl))
                    (try simp only [Act.put, List.getElem_toArray, List.getElem_cons_succ, List.getElem_cons_zero, List.setIfInBounds_toArray, List.set_cons_zero, List.set_cons_succ])
                    refine wpAnyF_take (i := 9) (oi := _) (v := ?_) rfl (by kernel_rfl) (by kernel_rfl) (by kernel_rfl) (by kernel_rfl) (fun _ _ _ h => h) (Or.inl ⟨by rfl, ?_⟩) (by assumption) ?_
                    rotate_left 1
                    · intro w hSw
                      (try dsimp only at hSw)
                      (first | (go_simp; done) | (go_simp; with_reducible rfl))
                    (try simp only [Act.put, List.getElem_toArray, List.getElem_cons_succ, List.getElem_cons_zero, List.setIfInBounds_toArray, List.set_cons_zero, List.set_cons_succ])
                    refine wpAnyF_take (i := 10) (oi := _) (v := ?_) rfl (by kernel_rfl) (by kernel_rfl) (by kernel_rfl) (by kernel_rfl) (fun _ _ _ h => h) (Or.inl ⟨by rfl, ?_⟩) (by assumption) ?_
                    rotate_left 1
                    · intro w hSw
                      (try dsimp only at hSw)
                      (first | (go_simp; done) | (go_simp; with_reducible rfl))
                    (try simp only [Act.put, List.getElem_toArray, List.getElem_cons_succ, List.getElem_cons_zero, List.setIfInBounds_toArray, List.set_cons_zero, List.set_cons_succ])
                    refine wpAnyF_take (i := 11) (oi := _) (v := ?_) rfl (by kernel_rfl) (by kernel_rfl) (by kernel_rfl) (by kernel_rfl) (fun _ _ _ h => h) (Or.inl ⟨by rfl, ?_⟩) (by assumption) ?_
                    rotate_left 1
                    · intro w hSw
                      (try dsimp only at hSw)
                      (first | (go_simp; done) | (go_simp; with_reducible rfl))
                    (try simp only [Act.put, List.getElem_toArray, List.getElem_cons_succ, List.getElem_cons_zero, List.setIfInBounds_toArray, List.set_cons_zero, List.set_cons_succ])
                    refine wpAnyF_take (i := 12) (oi := _) (v := ?_) rfl (by kernel_rfl) (by kernel_rfl) (by kernel_rfl) (by kernel_rfl) (fun _ _ _ h => h) (Or.inl ⟨by rfl, ?_⟩) (by assumption) ?_
                    rotate_left 1
                    · intro w hSw
                      (try dsimp only at hSw)
                      (first | (go_simp; done) | (go_simp; with_reducible rfl))
                    (try simp only [Act.put, List.getElem_toArray, List.getElem_cons_succ, List.getElem_cons_zero, List.setIfInBounds_toArray, List.set_cons_zero, List.set_cons_succ])
                    refine wpAnyF_take (i := 13) (oi := _) (v := ?_) rfl (by kernel_rfl) (by kernel_rfl) (by kernel_rfl) (by kernel_rfl) (fun _ _ _ h => h) (Or.inl ⟨by rfl, ?_⟩) (by assumption) ?_
                    rotate_left 1
                    · intro w hSw
                      (try dsimp only at hSw)
                      (first | (go_simp; done) | (go_simp; with_reducible rfl))
                    (try simp only [Act.put, List.getElem_toArray, List.getElem_cons_succ, List.getElem_cons_zero, List.setIfInBounds_toArray, List.set_cons_zero, List.set_cons_succ])
                    refine wpAnyF_take (i := 14) (oi := _) (v := ?_) rfl (by kernel_rfl) (by kernel_rfl) (by kernel_rfl) (by kernel_rfl) (fun _ _ _ h => h) (Or.inl ⟨by rfl, ?_⟩) (by assumption) ?_
                    rotate_left 1
                    · intro w hSw
                      (try dsimp only at hSw)
                      (first | (go_simp; done) | (go_simp; with_reducible rfl))
                    (try simp only [Act.put, List.getElem_toArray, List.getElem_cons_succ, List.getElem_cons_zero, List.setIfInBounds_toArray, List.set_cons_zero, List.set_cons_succ])
                    refine wpAnyF_take (i := 15) (oi := _) (v := ?_) rfl (by kernel_rfl) (by kernel_rfl) (by kernel_rfl) (by kernel_rfl) (fun _ _ _ h => h) (Or.inl ⟨by rfl, ?_⟩) (by assumption) ?_
                    rotate_left 1
                    · intro w hSw
                      (try dsimp only at hSw)
                      (first | (go_simp; done) | (go_simp; with_reducible rfl))
                    (try simp only [Act.put, List.getElem_toArray, List.getElem_cons_succ, List.getElem_cons_zero, List.setIfInBounds_toArray, List.set_cons_zero, List.set_cons_succ])
                    refine wpAnyF_take (i := 16) (oi := _) (v := ?_) rfl (by kernel_rfl) (by kernel_rfl) (by kernel_rfl) (by kernel_rfl) (fun _ _ _ h => h) (Or.inl ⟨by rfl, ?_⟩) (by assumption) ?_
                    rotate_left 1
                    · intro w hSw
                      (try dsimp only at hSw)
                      (first | (go_simp; done) | (go_simp; with_reducible rfl))
                    (try simp only [Act.put, List.getElem_toArray, List.getElem_cons_succ, List.getElem_cons_zero, List.setIfInBounds_toArray, List.set_cons_zero, List.set_cons_succ])
                    refine wpAnyF_take (i := 17) (oi := _) (v := ?_) rfl (by kernel_rfl) (by kernel_rfl) (by kernel_rfl) (by kernel_rfl) (fun _ _ _ h => h) (Or.inl ⟨by rfl, ?_⟩) (by assumption) ?_
                    rotate_left 1
                    · intro w hSw
                      (try dsimp only at hSw)
                      (first | (go_simp; done) | (go_simp; with_reducible rfl))
                    (try simp only [Act.put, List.getElem_toArray, List.getElem_cons_succ, List.getElem_cons_zero, List.setIfInBounds_toArray, List.set_cons_zero, List.set_cons_succ])
                    refine wpAnyF_take (i := 20) (oi := _) (v := ?_) rfl (by kernel_rfl) (by kernel_rfl) (by kernel_rfl) (by kernel_rfl) (fun _ _ _ h => h) (Or.inl ⟨by rfl, ?_⟩) (by assumption) ?_
                    rotate_left 1
                    · intro w hSw
                      (try dsimp only at hSw)
                      (first | (go_simp; done) | (go_simp; with_reducible rfl))
                    (try simp only [Act.put, List.getElem_toArray, List.getElem_cons_succ, List.getElem_cons_zero, List.setIfInBounds_toArray, List.set_cons_zero, List.set_cons_succ])
                    refine wpAnyF_take (i := 21) (oi := _) (v := ?_) rfl (by kernel_rfl) (by kernel_rfl) (by kernel_rfl) (by kernel_rfl) (fun _ _ _ h => h) (Or.inl ⟨by rfl, ?_⟩) (by assumption) ?_
                    rotate_left 1
                    · intro w hSw
                      (try dsimp only at hSw)
                      (first | (go_simp; done) | (go_simp; with_reducible rfl))
                    (try simp only [Act.put, List.getElem_toArray, List.getElem_cons_succ, List.getElem_cons_zero, List.setIfInBounds_toArray, List.set_cons_zero, List.set_cons_succ])
                    refine wpAnyF_ready (rs := [18]) (by kernel_rfl) (by simp) ?_
                    refine AllReadyF.cons (o := _) rfl (fun K hK => ?_) AllReadyF.nil
                    go_simp
                    (go_at_call 15)
                    refine (HFULLj.out _ (HB7w.out.trans (hHeld.2.2.2.2.2.2.mono HB7w.out.size))).mono ?_
                    rintro r wf0 ⟨Af0, cf0, rfl, hff0, _, hfb0⟩
                    have HFB0 : Hid (Below V.heap.size V wf0) := Lib.hid (hHeld.2.2.2.2.2.2.trans (hfb0.mono hHeld.2.2.2.2.2.2.size))
                    have HFF0 := Lib.hid hff0
                    clear hff0 hfb0
                    refine hK.out _ _ (HK7.out _ HFB0.out) (fun hHeld18 => ?_)
                    clear hK K
                    (try simp only [Act.put, List.getElem_toArray, List.getElem_cons_succ, List.getElem_cons_zero, List.setIfInBounds_toArray, List.set_cons_zero, List.set_cons_succ])
                    refine wpAnyF_ready (rs := [19, 22]) (by kernel_rfl) (by simp) ?_
                    refine AllReadyF.cons (o := _) rfl (fun K hK => ?_) (AllReadyF.cons (o := _) rfl (fun K hK => ?_) AllReadyF.nil)
                    · have hcv : (convert 29 9 (.slice Af0 256 cf0)).run Try.prog wf0 = .ok (.string s1) wf0 := by rw [HS1q.out]; exact HFF0.out.conv 29 5 9 Try.underlying29 Try.underlying5 Try.underlying9
                      go_simp
                      clear hcv
                      refine hK.out _ _ (HK7.out _ HFB0.out) (fun hHeld19 => ?_)
                      clear hK K
                      (try simp only [Act.put, List.getElem_toArray, List.getElem_cons_succ, List.getElem_cons_zero, List.setIfInBounds_toArray, List.set_cons_zero, List.set_cons_succ])
                      refine wpAnyF_ready (rs := [22]) (by kernel_rfl) (by simp) ?_
                      refine AllReadyF.cons (o := _) rfl (fun K hK => ?_) AllReadyF.nil
                      go_simp
                      (go_at_call 15)
                      refine (HFULLk.out _ (HB7w.out.trans (HFB0.out.mono HB7w.out.size))).mono ?_
                      rintro r wf1 ⟨Af1, cf1, rfl, hff1, _, hfb1⟩
                      have HFB1 : Hid (Below V.heap.size V wf1) := Lib.hid (HFB0.out.trans (hfb1.mono HFB0.out.size))
                      have HFF1 := Lib.hid hff1
                      have HF01 := Lib.hid ((HFF0.out.below hfb1).more hfb1.size)
                      clear hff1 hfb1
                      refine hK.out _ _ (HK7.out _ HFB1.out) (fun hHeld22 => ?_)
                      clear hK K
                      (try simp only [Act.put, List.getElem_toArray, List.getElem_cons_succ, List.getElem_cons_zero, List.setIfInBounds_toArray, List.set_cons_zero, List.set_cons_succ])
                      refine wpAnyF_ready (rs := [23]) (by kernel_rfl) (by simp) ?_
                      refine AllReadyF.cons (o := _) rfl (fun K hK => ?_) AllReadyF.nil
                      have hcv : (convert 29 9 (.slice Af1 256 cf1)).run Try.prog wf1 = .ok (.string s2) wf1 := by rw [HS2q.out]; exact HFF1.out.conv 29 5 9 Try.underlying29 Try.underlying5 Try.underlying9
                      go_simp
                      clear hcv
                      refine hK.out _ _ (HK7.out _ HFB1.out) (fun hHeld23 => ?_)
                      clear hK K
                      (try simp only [Act.put, List.getElem_toArray, List.getElem_cons_succ, List.getElem_cons_zero, List.setIfInBounds_toArray, List.set_cons_zero, List.set_cons_succ])
                      refine wpAnyF_take (i := 24) (oi := _) (v := ?_) rfl (by kernel_rfl) (by kernel_rfl) (by kernel_rfl) (by kernel_rfl) (fun _ _ _ h => h) (Or.inl ⟨by rfl, ?_⟩) (by assumption) ?_
                      rotate_left 1
                      · intro w hSw
                        (try dsimp only at hSw)
                        (first | (go_simp; done) | (go_simp; with_reducible rfl))
                      (try simp only [Act.put, List.getElem_toArray, List.getElem_cons_succ, List.getElem_cons_zero, List.setIfInBounds_toArray, List.set_cons_zero, List.set_cons_succ])
                      refine wpAnyF_take (i := 25) (oi := _) (v := ?_) rfl (by kernel_rfl) (by kernel_rfl) (by kernel_rfl) (by kernel_rfl) (fun _ _ _ h => h) (Or.inl ⟨by rfl, ?_⟩) (by assumption) ?_
                      rotate_left 1
                      · intro w hSw
                        (try dsimp only at hSw)
                        (first | (go_simp; done) | (go_simp; with_reducible rfl))
                      (try simp only [Act.put, List.getElem_toArray, List.getElem_cons_succ, List.getElem_cons_zero, List.setIfInBounds_toArray, List.set_cons_zero, List.set_cons_succ])
                      refine wpAnyF_take (i := 26) (oi := _) (v := ?_) rfl (by kernel_rfl) (by kernel_rfl) (by kernel_rfl) (by kernel_rfl) (fun _ _ _ h => h) (Or.inl ⟨by rfl, ?_⟩) (by assumption) ?_
                      rotate_left 1
                      · intro w hSw
                        (try dsimp only at hSw)
                        (first | (go_simp; done) | (go_simp; with_reducible rfl))
                      (try simp only [Act.put, List.getElem_toArray, List.getElem_cons_succ, List.getElem_cons_zero, List.setIfInBounds_toArray, List.set_cons_zero, List.set_cons_succ])
                      refine wpAnyF_take (i := 27) (oi := _) (v := ?_) rfl (by kernel_rfl) (by kernel_rfl) (by kernel_rfl) (by kernel_rfl) (fun _ _ _ h => h) (Or.inl ⟨by rfl, ?_⟩) (by assumption) ?_
                      rotate_left 1
                      · intro w hSw
                        (try dsimp only at hSw)
                        (first | (go_simp; done) | (go_simp; with_reducible rfl))
                      (try simp only [Act.put, List.getElem_toArray, List.getElem_cons_succ, List.getElem_cons_zero, List.setIfInBounds_toArray, List.set_cons_zero, List.set_cons_succ])
                      refine wpAnyF_done (by kernel_rfl) ?_ _
                      have HLAST := Lib.hid (HRD.out _ true HFB1.out (HYN.out true ⟨fun _ => Or.inr (HMT.out.2 ⟨rfl, rfl, hP⟩), fun _ => rfl⟩))
                      go_wp2
                      go_roundw
                      case rel => exact HLAST.out
                      case measure => simp [intOf]; omega
                    · go_simp
                      (go_at_call 15)
                      refine (HFULLk.out _ (HB7w.out.trans (HFB0.out.mono HB7w.out.size))).mono ?_
                      rintro r wf1 ⟨Af1, cf1, rfl, hff1, _, hfb1⟩
                      have HFB1 : Hid (Below V.heap.size V wf1) := Lib.hid (HFB0.out.trans (hfb1.mono HFB0.out.size))
                      have HFF1 := Lib.hid hff1
                      have HF01 := Lib.hid ((HFF0.out.below hfb1).more hfb1.size)
                      clear hff1 hfb1
                      refine hK.out _ _ (HK7.out _ HFB1.out) (fun hHeld22 => ?_)
                      clear hK K
                      (try simp only [Act.put, List.getElem_toArray, List.getElem_cons_succ, List.getElem_cons_zero, List.setIfInBounds_toArray, List.set_cons_zero, List.set_cons_succ])
                      refine wpAnyF_ready (rs := [19, 23]) (by kernel_rfl) (by simp) ?_
                      refine AllReadyF.cons (o := _) rfl (fun K hK => ?_) (AllReadyF.cons (o := _) rfl (fun K hK => ?_) AllReadyF.nil)
                      · have hcv : (convert 29 9 (.slice Af0 256 cf0)).run Try.prog wf1 = .ok (.string s1) wf1 := by rw [HS1q.out]; exact HF01.out.conv 29 5 9 Try.underlying29 Try.underlying5 Try.underlying9
                        go_simp
                        clear hcv
                        refine hK.out _ _ (HK7.out _ HFB1.out) (fun hHeld19 => ?_)
                        clear hK K
                        (try simp only [Act.put, List.getElem_toArray, List.getElem_cons_succ, List.getElem_cons_zero, List.setIfInBounds_toArray, List.set_cons_zero, List.set_cons_succ])
                        refine wpAnyF_ready (rs := [23]) (by kernel_rfl) (by simp) ?_
                        refine AllReadyF.cons (o := _) rfl (fun K hK => ?_) AllReadyF.nil
                        have hcv : (convert 29 9 (.slice Af1 256 cf1)).run Try.prog wf1 = .ok (.string s2) wf1 := by rw [HS2q.out]; exact HFF1.out.conv 29 5 9 Try.underlying29 Try.underlying5 Try.underlying9
                        go_simp
                        clear hcv
                        refine hK.out _ _ (HK7.out _ HFB1.out) (fun hHeld23 => ?_)
                        clear hK K
                        (try simp only [Act.put, List.getElem_toArray, List.getElem_cons_succ, List.getElem_cons_zero, List.setIfInBounds_toArray, List.set_cons_zero, List.set_cons_succ])
                        refine wpAnyF_take (i := 24) (oi := _) (v := ?_) rfl (by kernel_rfl) (by kernel_rfl) (by kernel_rfl) (by kernel_rfl) (fun _ _ _ h => h) (Or.inl ⟨by rfl, ?_⟩) (by assumption) ?_
                        rotate_left 1
                        · intro w hSw
                          (try dsimp only at hSw)
                          (first | (go_simp; done) | (go_simp; with_reducible rfl))
                        (try simp only [Act.put, List.getElem_toArray, List.getElem_cons_succ, List.getElem_cons_zero, List.setIfInBounds_toArray, List.set_cons_zero, List.set_cons_succ])
                        refine wpAnyF_take (i := 25) (oi := _) (v := ?_) rfl (by kernel_rfl) (by kernel_rfl) (by kernel_rfl) (by kernel_rfl) (fun _ _ _ h => h) (Or.inl ⟨by rfl, ?_⟩) (by assumption) ?_
                        rotate_left 1
                        · intro w hSw
                          (try dsimp only at hSw)
                          (first | (go_simp; done) | (go_simp; with_reducible rfl))
                        (try simp only [Act.put, List.getElem_toArray, List.getElem_cons_succ, List.getElem_cons_zero, List.setIfInBounds_toArray, List.set_cons_zero, List.set_cons_succ])
                        refine wpAnyF_take (i := 26) (oi := _) (v := ?_) rfl (by kernel_rfl) (by kernel_rfl) (by kernel_rfl) (by kernel_rfl) (fun _ _ _ h => h) (Or.inl ⟨by rfl, ?_⟩) (by assumption) ?_
                        rotate_left 1
                        · intro w hSw
                          (try dsimp only at hSw)
                          (first | (go_simp; done) | (go_simp; with_reducible rfl))
                        (try simp only [Act.put, List.getElem_toArray, List.getElem_cons_succ, List.getElem_cons_zero, List.setIfInBounds_toArray, List.set_cons_zero, List.set_cons_succ])
                        refine wpAnyF_take (i := 27) (oi := _) (v := ?_) rfl (by kernel_rfl) (by kernel_rfl) (by kernel_rfl) (by kernel_rfl) (fun _ _ _ h => h) (Or.inl ⟨by rfl, ?_⟩) (by assumption) ?_
                        rotate_left 1
                        · intro w hSw
                          (try dsimp only at hSw)
                          (first | (go_simp; done) | (go_simp; with_reducible rfl))
                        (try simp only [Act.put, List.getElem_toArray, List.getElem_cons_succ, List.getElem_cons_zero, List.setIfInBounds_toArray, List.set_cons_zero, List.set_cons_succ])
                        refine wpAnyF_done (by kernel_rfl) ?_ _
                        have HLAST := Lib.hid (HRD.out _ true HFB1.out (HYN.out true ⟨fun _ => Or.inr (HMT.out.2 ⟨rfl, rfl, hP⟩), fun _ => rfl⟩))
                        go_wp2
                        go_roundw
                        case rel => exact HLAST.out
                        case measure => simp [intOf]; omega
                      · have hcv : (convert 29 9 (.slice Af1 256 cf1)).run Try.prog wf1 = .ok (.string s2) wf1 := by rw [HS2q.out]; exact HFF1.out.conv 29 5 9 Try.underlying29 Try.underlying5 Try.underlying9
                        go_simp
                        clear hcv
                        refine hK.out _ _ (HK7.out _ HFB1.out) (fun hHeld23 => ?_)
                        clear hK K
                        (try simp only [Act.put, List.getElem_toArray, List.getElem_cons_succ, List.getElem_cons_zero, List.setIfInBounds_toArray, List.set_cons_zero, List.set_cons_succ])
                        refine wpAnyF_ready (rs := [19]) (by kernel_rfl) (by simp) ?_
                        refine AllReadyF.cons (o := _) rfl (fun K hK => ?_) AllReadyF.nil
                        have hcv : (convert 29 9 (.slice Af0 256 cf0)).run Try.prog wf1 = .ok (.string s1) wf1 := by rw [HS1q.out]; exact HF01.out.conv 29 5 9 Try.underlying29 Try.underlying5 Try.underlying9
                        go_simp
                        clear hcv
                        refine hK.out _ _ (HK7.out _ HFB1.out) (fun hHeld19 => ?_)
                        clear hK K
                        (try simp only [Act.put, List.getElem_toArray, List.getElem_cons_succ, List.getElem_cons_zero, List.setIfInBounds_toArray, List.set_cons_zero, List.set_cons_succ])
                        refine wpAnyF_take (i := 24) (oi := _) (v := ?_) rfl (by kernel_rfl) (by kernel_rfl) (by kernel_rfl) (by kernel_rfl) (fun _ _ _ h => h) (Or.inl ⟨by rfl, ?_⟩) (by assumption) ?_
                        rotate_left 1
                        · intro w hSw
                          (try dsimp only at hSw)
                          (first | (go_simp; done) | (go_simp; with_reducible rfl))
                        (try simp only [Act.put, List.getElem_toArray, List.getElem_cons_succ, List.getElem_cons_zero, List.setIfInBounds_toArray, List.set_cons_zero, List.set_cons_succ])
                        refine wpAnyF_take (i := 25) (oi := _) (v := ?_) rfl (by kernel_rfl) (by kernel_rfl) (by kernel_rfl) (by kernel_rfl) (fun _ _ _ h => h) (Or.inl ⟨by rfl, ?_⟩) (by assumption) ?_
                        rotate_left 1
                        · intro w hSw
                          (try dsimp only at hSw)
                          (first | (go_simp; done) | (go_simp; with_reducible rfl))
                        (try simp only [Act.put, List.getElem_toArray, List.getElem_cons_succ, List.getElem_cons_zero, List.setIfInBounds_toArray, List.set_cons_zero, List.set_cons_succ])
                        refine wpAnyF_take (i := 26) (oi := _) (v := ?_) rfl (by kernel_rfl) (by kernel_rfl) (by kernel_rfl) (by kernel_rfl) (fun _ _ _ h => h) (Or.inl ⟨by rfl, ?_⟩) (by assumption) ?_
                        rotate_left 1
                        · intro w hSw
                          (try dsimp only at hSw)
                          (first | (go_simp; done) | (go_simp; with_reducible rfl))
                        (try simp only [Act.put, List.getElem_toArray, List.getElem_cons_succ, List.getElem_cons_zero, List.setIfInBounds_toArray, List.set_cons_zero, List.set_cons_succ])
                        refine wpAnyF_take (i := 27) (oi := _) (v := ?_) rfl (by kernel_rfl) (by kernel_rfl) (by kernel_rfl) (by kernel_rfl) (fun _ _ _ h => h) (Or.inl ⟨by rfl, ?_⟩) (by assumption) ?_
                        rotate_left 1
                        · intro w hSw
                          (try dsimp only at hSw)
                          (first | (go_simp; done) | (go_simp; with_reducible rfl))
                        (try simp only [Act.put, List.getElem_toArray, List.getElem_cons_succ, List.getElem_cons_zero, List.setIfInBounds_toArray, List.set_cons_zero, List.set_cons_succ])
                        refine wpAnyF_done (by kernel_rfl) ?_ _
                        have HLAST := Lib.hid (HRD.out _ true HFB1.out (HYN.out true ⟨fun _ => Or.inr (HMT.out.2 ⟨rfl, rfl, hP⟩), fun _ => rfl⟩))
                        go_wp2
                        go_roundw
                        case rel => exact HLAST.out
                        case measure => simp [intOf]; omega

                · have hBi : ((Bj : Int) == (Bk : Int)) = false := by simp; omega
                  have hBi2 : ¬ (Bj : Int) = (Bk : Int) := by omega
                  have hBi3 : decide ((Bj : Int) = (Bk : Int)) = false := decide_eq_false hBi2
                  refine wp_region_F (S := fun (W : World) => W.cell? ⟨p8, 1, none⟩ = some (.int .u64 (E : Int)) ∧ W.cell? ⟨p8, 2, none⟩ = some (.int .i64 (Bk : Int)) ∧ W.cell? ⟨p8, 3, none⟩ = some (.slice A0 n0 c0) ∧ W.cell? ⟨p10, 1, none⟩ = some (.int .u64 (E : Int)) ∧ W.cell? ⟨p10, 2, none⟩ = some (.int .i64 B1) ∧ W.cell? ⟨p10, 3, none⟩ = some (.slice A1 n1 c1) ∧ Below V.heap.size V W) [] (by kernel_rfl) (HK7.out _ ((Below.refl _ _).drew)) (fun hHeld => ?_)
                  refine wpAnyF_take (i := 0) (oi := _) (v := ?_) rfl (by kernel_rfl) (by kernel_rfl) (by kernel_rfl) (by kernel_rfl) (fun _ _ _ h => h) (Or.inl ⟨by rfl, ?_⟩) (by assumption) ?_
                  rotate_left 1
                  · intro w hSw
                    (try dsimp only at hSw)
                    (first | (go_simp; done) | (go_simp; with_reducible rfl))
                  (try simp only [Act.put, List.getElem_toArray, List.getElem_cons_succ, List.getElem_cons_zero, List.setIfInBounds_toArray, List.set_cons_zero, List.set_cons_succ])
                  refine wpAnyF_take (i := 1) (oi := _) (v := ?_) rfl (by kernel_rfl) (by kernel_rfl) (by kernel_rfl) (by kernel_rfl) (fun _ _ _ h => h) (Or.inl ⟨by rfl, ?_⟩) (by assumption) ?_
                  rotate_left 1
                  · intro w hSw
                    (try dsimp only at hSw)
                    (first | (go_simp; done) | (go_simp; with_reducible rfl))
                  (try simp only [Act.put, List.getElem_toArray, List.getElem_cons_succ, List.getElem_cons_zero, List.setIfInBounds_toArray, List.set_cons_zero, List.set_cons_succ])
                  refine wpAnyF_take (i := 2) (oi := _) (v := ?_) rfl (by kernel_rfl) (by kernel_rfl) (by kernel_rfl) (by kernel_rfl) (fun _ _ _ h => h) (Or.inl ⟨by rfl, ?_⟩) (by assumption) ?_
                  rotate_left 1
                  · intro w hSw
                    (try dsimp only at hSw)
                    (first | (go_simp; done) | (go_simp; with_reducible rfl))
                  (try simp only [Act.put, List.getElem_toArray, List.getElem_cons_succ, List.getElem_cons_zero, List.setIfInBounds_toArray, List.set_cons_zero, List.set_cons_succ])
                  refine wpAnyF_take (i := 3) (oi := _) (v := ?_) rfl (by kernel_rfl) (by kernel_rfl) (by kernel_rfl) (by kernel_rfl) (fun _ _ _ h => h) (Or.inl ⟨by rfl, ?_⟩) (by assumption) ?_
                  rotate_left 1
                  · intro w hSw
                    (try dsimp only at hSw)
                    (first | (go_simp; done) | (go_simp; with_reducible rfl))
                  (try simp only [Act.put, List.getElem_toArray, List.getElem_cons_succ, List.getElem_cons_zero, List.setIfInBounds_toArray, List.set_cons_zero, List.set_cons_succ])
                  refine wpAnyF_take (i := 4) (oi := _) (v := ?_) rfl (by kernel_rfl) (by kernel_rfl) (by kernel_rfl) (by kernel_rfl) (fun _ _ _ h => h) (Or.inl ⟨by rfl, ?_⟩) (by assumption) ?_
                  rotate_left 1
                  · intro w hSw
                    (try dsimp only at hSw)
                    (first | (go_simp; done) | (go_simp; with_reducible rfl))
                  (try simp only [Act.put, List.getElem_toArray, List.getElem_cons_succ, List.getElem_cons_zero, List.setIfInBounds_toArray, List.set_cons_zero, List.set_cons_succ])
                  refine wpAnyF_take (i := 5) (oi := _) (v := ?_) rfl (by kernel_rfl) (by kernel_rfl) (by kernel_rfl) (by kernel_rfl) (fun _ _ _ h => h) (Or.inl ⟨by rfl, ?_⟩) (by assumption) ?_
                  rotate_left 1
                  · intro w hSw
                    (try dsimp only at hSw)
                    (first | (go_simp; done) | (go_simp; with_reducible rfl))
                  (try simp only [Act.put, List.getElem_toArray, List.getElem_cons_succ, List.getElem_cons_zero, List.setIfInBounds_toArray, List.set_cons_zero, List.set_cons_succ])
                  refine wpAnyF_take (i := 6) (oi := _) (v := ?_) rfl (by kernel_rfl) (by kernel_rfl) (by kernel_rfl) (by kernel_rfl) (fun _ _ _ h => h) (Or.inl ⟨by rfl, ?_⟩) (by assumption) ?_
                  rotate_left 1
                  · intro w hSw
                    (try dsimp only at hSw)
                    (first | (go_simp; done) | (go_simp; with_reducible rfl))
                  (try simp only [Act.put, List.getElem_toArray, List.getElem_cons_succ, List.getElem_cons_zero, List.setIfInBounds_toArray, List.set_cons_zero, List.set_cons_succ])
                  refine wpAnyF_take (i := 7) (oi := _) (v := ?_) rfl (by kernel_rfl) (by kernel_rfl) (by kernel_rfl) (by kernel_rfl) (fun _ _ _ h => h) (Or.inl ⟨by rfl, ?_⟩) (by assumption) ?_
                  rotate_left 1
                  · intro w hSw
                    (try dsimp only at hSw)
                    (first | (go_simp; done) | (go_simp; with_reducible rfl))
                  (try simp only [Act.put, List.getElem_toArray, List.getElem_cons_succ, List.getElem_cons_zero, List.setIfInBounds_toArray, List.set_cons_zero, List.set_cons_succ])
                  refine wpAnyF_take (i := 8) (oi := _) (v := ?_) rfl (by kernel_rfl) (by kernel_rfl) (by kernel_rfl) (by kernel_rfl) (fun _ _ _ h => h) (Or.inl ⟨by rfl, ?_⟩) (by assumption) ?_
                  rotate_left 1
                  · intro w hSw
                    (try dsimp only at hSw)
                    (first | (go_simp; done) | (go_simp; with_reducible rfl))
                  (try simp only [Act.put, List.getElem_toArray, List.getElem_cons_succ, List.getElem_cons_zero, List.setIfInBounds_toArray, List.set_cons_zero, List.set_cons_succ])
                  refine wpAnyF_take (i := 9) (oi := _) (v := ?_) rfl (by kernel_rfl) (by kernel_rfl) (by kernel_rfl) (by kernel_rfl) (fun _ _ _ h => h) (Or.inl ⟨by rfl, ?_⟩) (by assumption) ?_
                  rotate_left 1
                  · intro w hSw
                    (try dsimp only at hSw)
                    (first | (go_simp; done) | (go_simp; with_reducible rfl))
                  (try simp only [Act.put, List.getElem_toArray, List.getElem_cons_succ, List.getElem_cons_zero, List.setIfInBounds_toArray, List.set_cons_zero, List.set_cons_succ])
                  refine wpAnyF_take (i := 10) (oi := _) (v := ?_) rfl (by kernel_rfl) (by kernel_rfl) (by kernel_rfl) (by kernel_rfl) (fun _ _ _ h => h) (Or.inl ⟨by rfl, ?_⟩) (by assumption) ?_
                  rotate_left 1
                  · intro w hSw
                    (try dsimp only at hSw)
                    (first | (go_simp; done) | (go_simp; with_reducible rfl))
                  (try simp only [Act.put, List.getElem_toArray, List.getElem_cons_succ, List.getElem_cons_zero, List.setIfInBounds_toArray, List.set_cons_zero, List.set_cons_succ])
                  refine wpAnyF_take (i := 11) (oi := _) (v := ?_) rfl (by kernel_rfl) (by kernel_rfl) (by kernel_rfl) (by kernel_rfl) (fun _ _ _ h => h) (Or.inl ⟨by rfl, ?_⟩) (by assumption) ?_
                  rotate_left 1
                  · intro w hSw
                    (try dsimp only at hSw)
                    (first | (go_simp; done) | (go_simp; with_reducible rfl))
                  (try simp only [Act.put, List.getElem_toArray, List.getElem_cons_succ, List.getElem_cons_zero, List.setIfInBounds_toArray, List.set_cons_zero, List.set_cons_succ])
                  refine wpAnyF_take (i := 12) (oi := _) (v := ?_) rfl (by kernel_rfl) (by kernel_rfl) (by kernel_rfl) (by kernel_rfl) (fun _ _ _ h => h) (Or.inl ⟨by rfl, ?_⟩) (by assumption) ?_
                  rotate_left 1
                  · intro w hSw
                    (try dsimp only at hSw)
                    (first | (go_simp; done) | (go_simp; with_reducible rfl))
                  (try simp only [Act.put, List.getElem_toArray, List.getElem_cons_succ, List.getElem_cons_zero, List.setIfInBounds_toArray, List.set_cons_zero, List.set_cons_succ])
                  refine wpAnyF_take (i := 13) (oi := _) (v := ?_) rfl (by kernel_rfl) (by kernel_rfl) (by kernel_rfl) (by kernel_rfl) (fun _ _ _ h => h) (Or.inl ⟨by rfl, ?_⟩) (by assumption) ?_
                  rotate_left 1
                  · intro w hSw
                    (try dsimp only at hSw)
                    (first | (go_simp; done) | (go_simp; with_reducible rfl))
                  (try simp only [Act.put, List.getElem_toArray, List.getElem_cons_succ, List.getElem_cons_zero, List.setIfInBounds_toArray, List.set_cons_zero, List.set_cons_succ])
                  refine wpAnyF_take (i := 14) (oi := _) (v := ?_) rfl (by kernel_rfl) (by kernel_rfl) (by kernel_rfl) (by kernel_rfl) (fun _ _ _ h => h) (Or.inl ⟨by rfl, ?_⟩) (by assumption) ?_
                  rotate_left 1
                  · intro w hSw
                    (try dsimp only at hSw)
                    (first | (go_simp; done) | (go_simp; with_reducible rfl))
                  (try simp only [Act.put, List.getElem_toArray, List.getElem_cons_succ, List.getElem_cons_zero, List.setIfInBounds_toArray, List.set_cons_zero, List.set_cons_succ])
                  refine wpAnyF_take (i := 15) (oi := _) (v := ?_) rfl (by kernel_rfl) (by kernel_rfl) (by kernel_rfl) (by kernel_rfl) (fun _ _ _ h => h) (Or.inl ⟨by rfl, ?_⟩) (by assumption) ?_
                  rotate_left 1
                  · intro w hSw
                    (try dsimp only at hSw)
                    (first | (go_simp; done) | (go_simp; with_reducible rfl))
                  (try simp only [Act.put, List.getElem_toArray, List.getElem_cons_succ, List.getElem_cons_zero, List.setIfInBounds_toArray, List.set_cons_zero, List.set_cons_succ])
                  refine wpAnyF_take (i := 16) (oi := _) (v := undef) rfl (by kernel_rfl) (by kernel_rfl) (by kernel_rfl) (by kernel_rfl) (fun _ _ _ h => h) (Or.inr ⟨by rfl, rfl⟩) (by assumption) ?_
                  (try simp only [Act.put, List.getElem_toArray, List.getElem_cons_succ, List.getElem_cons_zero, List.setIfInBounds_toArray, List.set_cons_zero, List.set_cons_succ])
                  refine wpAnyF_take (i := 17) (oi := _) (v := undef) rfl (by kernel_rfl) (by kernel_rfl) (by kernel_rfl) (by kernel_rfl) (fun _ _ _ h => h) (Or.inr ⟨by rfl, rfl⟩) (by assumption) ?_
                  (try simp only [Act.put, List.getElem_toArray, List.getElem_cons_succ, List.getElem_cons_zero, List.setIfInBounds_toArray, List.set_cons_zero, List.set_cons_succ])
                  refine wpAnyF_take (i := 18) (oi := _) (v := undef) rfl (by kernel_rfl) (by kernel_rfl) (by kernel_rfl) (by kernel_rfl) (fun _ _ _ h => h) (Or.inr ⟨by rfl, rfl⟩) (by assumption) ?_
                  (try simp only [Act.put, List.getElem_toArray, List.getElem_cons_succ, List.getElem_cons_zero, List.setIfInBounds_toArray, List.set_cons_zero, List.set_cons_succ])
                  refine wpAnyF_take (i := 19) (oi := _) (v := undef) rfl (by kernel_rfl) (by kernel_rfl) (by kernel_rfl) (by kernel_rfl) (fun _ _ _ h => h) (Or.inr ⟨by rfl, rfl⟩) (by assumption) ?_
                  (try simp only [Act.put, List.getElem_toArray, List.getElem_cons_succ, List.getElem_cons_zero, List.setIfInBounds_toArray, List.set_cons_zero, List.set_cons_succ])
                  refine wpAnyF_take (i := 20) (oi := _) (v := undef) rfl (by kernel_rfl) (by kernel_rfl) (by kernel_rfl) (by kernel_rfl) (fun _ _ _ h => h) (Or.inr ⟨by rfl, rfl⟩) (by assumption) ?_
                  (try simp only [Act.put, List.getElem_toArray, List.getElem_cons_succ, List.getElem_cons_zero, List.setIfInBounds_toArray, List.set_cons_zero, List.set_cons_succ])
                  refine wpAnyF_take (i := 21) (oi := _) (v := undef) rfl (by kernel_rfl) (by kernel_rfl) (by kernel_rfl) (by kernel_rfl) (fun _ _ _ h => h) (Or.inr ⟨by rfl, rfl⟩) (by assumption) ?_
                  (try simp only [Act.put, List.getElem_toArray, List.getElem_cons_succ, List.getElem_cons_zero, List.setIfInBounds_toArray, List.set_cons_zero, List.set_cons_succ])
                  refine wpAnyF_take (i := 22) (oi := _) (v := undef) rfl (by kernel_rfl) (by kernel_rfl) (by kernel_rfl) (by kernel_rfl) (fun _ _ _ h => h) (Or.inr ⟨by rfl, rfl⟩) (by assumption) ?_
                  (try simp only [Act.put, List.getElem_toArray, List.getElem_cons_succ, List.getElem_cons_zero, List.setIfInBounds_toArray, List.set_cons_zero, List.set_cons_succ])
                  refine wpAnyF_take (i := 23) (oi := _) (v := undef) rfl (by kernel_rfl) (by kernel_rfl) (by kernel_rfl) (by kernel_rfl) (fun _ _ _ h => h) (Or.inr ⟨by rfl, rfl⟩) (by assumption) ?_
                  (try simp only [Act.put, List.getElem_toArray, List.getElem_cons_succ, List.getElem_cons_zero, List.setIfInBounds_toArray, List.set_cons_zero, List.set_cons_succ])
                  refine wpAnyF_take (i := 24) (oi := _) (v := undef) rfl (by kernel_rfl) (by kernel_rfl) (by kernel_rfl) (by kernel_rfl) (fun _ _ _ h => h) (Or.inr ⟨by rfl, rfl⟩) (by assumption) ?_
                  (try simp only [Act.put, List.getElem_toArray, List.getElem_cons_succ, List.getElem_cons_zero, List.setIfInBounds_toArray, List.set_cons_zero, List.set_cons_succ])
                  refine wpAnyF_take (i := 25) (oi := _) (v := ?_) rfl (by kernel_rfl) (by kernel_rfl) (by kernel_rfl) (by kernel_rfl) (fun _ _ _ h => h) (Or.inl ⟨by rfl, ?_⟩) (by assumption) ?_
                  rotate_left 1
                  · intro w hSw
                    (try dsimp only at hSw)
                    (first | (go_simp; done) | (go_simp; with_reducible rfl))
                  (try simp only [Act.put, List.getElem_toArray, List.getElem_cons_succ, List.getElem_cons_zero, List.setIfInBounds_toArray, List.set_cons_zero, List.set_cons_succ])
                  refine wpAnyF_take (i := 26) (oi := _) (v := ?_) rfl (by kernel_rfl) (by kernel_rfl) (by kernel_rfl) (by kernel_rfl) (fun _ _ _ h => h) (Or.inl ⟨by rfl, ?_⟩) (by assumption) ?_
                  rotate_left 1
                  · intro w hSw
                    (try dsimp only at hSw)
                    (first | (go_simp; done) | (go_simp; with_reducible rfl))
                  (try simp only [Act.put, List.getElem_toArray, List.getElem_cons_succ, List.getElem_cons_zero, List.setIfInBounds_toArray, List.set_cons_zero, List.set_cons_succ])
                  refine wpAnyF_take (i := 27) (oi := _) (v := ?_) rfl (by kernel_rfl) (by kernel_rfl) (by kernel_rfl) (by kernel_rfl) (fun _ _ _ h => h) (Or.inl ⟨by rfl, ?_⟩) (by assumption) ?_
                  rotate_left 1
                  · intro w hSw
                    (try dsimp only at hSw)
                    (first | (go_simp; done) | (go_simp; with_reducible rfl))
                  (try simp only [Act.put, List.getElem_toArray, List.getElem_cons_succ, List.getElem_cons_zero, List.setIfInBounds_toArray, List.set_cons_zero, List.set_cons_succ])
                  refine wpAnyF_done (by kernel_rfl) ?_ _
                  have HLAST := Lib.hid (HRD.out _ false hHeld.2.2.2.2.2.2 (HYN.out false ⟨fun h => (by cases h), fun h => h.elim id (fun h => absurd (HMT.out.1 h).2.1 hBB)⟩))
                  go_wp2
                  go_roundw
                  case rel => exact HLAST.out
                  case measure => simp [intOf]; omega

              · have hEi : ((Ej : Int) == (E : Int)) = false := by simp; omega
                have hEi2 : ¬ (Ej : Int) = (E : Int) := by omega
                have hEi3 : decide ((Ej : Int) = (E : Int)) = false := decide_eq_false hEi2
                refine wp_region_F (S := fun (W : World) => W.cell? ⟨p8, 1, none⟩ = some (.int .u64 (E : Int)) ∧ W.cell? ⟨p8, 2, none⟩ = some (.int .i64 (Bk : Int)) ∧ W.cell? ⟨p8, 3, none⟩ = some (.slice A0 n0 c0) ∧ W.cell? ⟨p10, 1, none⟩ = some (.int .u64 (Ej : Int)) ∧ W.cell? ⟨p10, 2, none⟩ = some (.int .i64 B1) ∧ W.cell? ⟨p10, 3, none⟩ = some (.slice A1 n1 c1) ∧ Below V.heap.size V W) [] (by kernel_rfl) (HK7.out _ ((Below.refl _ _).drew)) (fun hHeld => ?_)
                refine wpAnyF_take (i := 0) (oi := _) (v := ?_) rfl (by kernel_rfl) (by kernel_rfl) (by kernel_rfl) (by kernel_rfl) (fun _ _ _ h => h) (Or.inl ⟨by rfl, ?_⟩) (by assumption) ?_
                rotate_left 1
                · intro w hSw
                  (try dsimp only at hSw)
                  (first | (go_simp; done) | (go_simp; with_reducible rfl))
                (try simp only [Act.put, List.getElem_toArray, List.getElem_cons_succ, List.getElem_cons_zero, List.setIfInBounds_toArray, List.set_cons_zero, List.set_cons_succ])
                refine wpAnyF_take (i := 1) (oi := _) (v := ?_) rfl (by kernel_rfl) (by kernel_rfl) (by kernel_rfl) (by kernel_rfl) (fun _ _ _ h => h) (Or.inl ⟨by rfl, ?_⟩) (by assumption) ?_
                rotate_left 1
                · intro w hSw
                  (try dsimp only at hSw)
                  (first | (go_simp; done) | (go_simp; with_reducible rfl))
                (try simp only [Act.put, List.getElem_toArray, List.getElem_cons_succ, List.getElem_cons_zero, List.setIfInBounds_toArray, List.set_cons_zero, List.set_cons_succ])
                refine wpAnyF_take (i := 2) (oi := _) (v := ?_) rfl (by kernel_rfl) (by kernel_rfl) (by kernel_rfl) (by kernel_rfl) (fun _ _ _ h => h) (Or.inl ⟨by rfl, ?_⟩) (by assumption) ?_
                rotate_left 1
                · intro w hSw
                  (try dsimp only at hSw)
                  (first | (go_simp; done) | (go_simp; with_reducible rfl))
                (try simp only [Act.put, List.getElem_toArray, List.getElem_cons_succ, List.getElem_cons_zero, List.setIfInBounds_toArray, List.set_cons_zero, List.set_cons_succ])
                refine wpAnyF_take (i := 3) (oi := _) (v := ?_) rfl (by kernel_rfl) (by kernel_rfl) (by kernel_rfl) (by kernel_rfl) (fun _ _ _ h => h) (Or.inl ⟨by rfl, ?_⟩) (by assumption) ?_
                rotate_left 1
                · intro w hSw
                  (try dsimp only at hSw)
                  (first | (go_simp; done) | (go_simp; with_reducible rfl))
                (try simp only [Act.put, List.getElem_toArray, List.getElem_cons_succ, List.getElem_cons_zero, List.setIfInBounds_toArray, List.set_cons_zero, List.set_cons_succ])
                refine wpAnyF_take (i := 4) (oi := _) (v := ?_) rfl (by kernel_rfl) (by kernel_rfl) (by kernel_rfl) (by kernel_rfl) (fun _ _ _ h => h) (Or.inl ⟨by rfl, ?_⟩) (by assumption) ?_
                rotate_left 1
                · intro w hSw
                  (try dsimp only at hSw)
                  (first | (go_simp; done) | (go_simp; with_reducible rfl))
                (try simp only [Act.put, List.getElem_toArray, List.getElem_cons_succ, List.getElem_cons_zero, List.setIfInBounds_toArray, List.set_cons_zero, List.set_cons_succ])
                refine wpAnyF_take (i := 5) (oi := _) (v := ?_) rfl (by kernel_rfl) (by kernel_rfl) (by kernel_rfl) (by kernel_rfl) (fun _ _ _ h => h) (Or.inl ⟨by rfl, ?_⟩) (by assumption) ?_
                rotate_left 1
                · intro w hSw
                  (try dsimp only at hSw)
                  (first | (go_simp; done) | (go_simp; with_reducible rfl))
                (try simp only [Act.put, List.getElem_toArray, List.getElem_cons_succ, List.getElem_cons_zero, List.setIfInBounds_toArray, List.set_cons_zero, List.set_cons_succ])
                refine wpAnyF_take (i := 6) (oi := _) (v := ?_) rfl (by kernel_rfl) (by kernel_rfl) (by kernel_rfl) (by kernel_rfl) (fun _ _ _ h => h) (Or.inl ⟨by rfl, ?_⟩) (by assumption) ?_
                rotate_left 1
                · intro w hSw
                  (try dsimp only at hSw)
                  (first | (go_simp; done) | (go_simp; with_reducible rfl))
                (try simp only [Act.put, List.getElem_toArray, List.getElem_cons_succ, List.getElem_cons_zero, List.setIfInBounds_toArray, List.set_cons_zero, List.set_cons_succ])
                refine wpAnyF_take (i := 7) (oi := _) (v := ?_) rfl (by kernel_rfl) (by kernel_rfl) (by kernel_rfl) (by kernel_rfl) (fun _ _ _ h => h) (Or.inl ⟨by rfl, ?_⟩) (by assumption) ?_
                rotate_left 1
                · intro w hSw
                  (try dsimp only at hSw)
                  (first | (go_simp; done) | (go_simp; with_reducible rfl))
                (try simp only [Act.put, List.getElem_toArray, List.getElem_cons_succ, List.getElem_cons_zero, List.setIfInBounds_toArray, List.set_cons_zero, List.set_cons_succ])
                refine wpAnyF_take (i := 8) (oi := _) (v := undef) rfl (by kernel_rfl) (by kernel_rfl) (by kernel_rfl) (by kernel_rfl) (fun _ _ _ h => h) (Or.inr ⟨by rfl, rfl⟩) (by assumption) ?_
                (try simp only [Act.put, List.getElem_toArray, List.getElem_cons_succ, List.getElem_cons_zero, List.setIfInBounds_toArray, List.set_cons_zero, List.set_cons_succ])
                refine wpAnyF_take (i := 9) (oi := _) (v := undef) rfl (by kernel_rfl) (by kernel_rfl) (by kernel_rfl) (by kernel_rfl) (fun _ _ _ h => h) (Or.inr ⟨by rfl, rfl⟩) (by assumption) ?_
                (try simp only [Act.put, List.getElem_toArray, List.getElem_cons_succ, List.getElem_cons_zero, List.setIfInBounds_toArray, List.set_cons_zero, List.set_cons_succ])
                refine wpAnyF_take (i := 10) (oi := _) (v := undef) rfl (by kernel_rfl) (by kernel_rfl) (by kernel_rfl) (by kernel_rfl) (fun _ _ _ h => h) (Or.inr ⟨by rfl, rfl⟩) (by assumption) ?_
                (try simp only [Act.put, List.getElem_toArray, List.getElem_cons_succ, List.getElem_cons_zero, List.setIfInBounds_toArray, List.set_cons_zero, List.set_cons_succ])
                refine wpAnyF_take (i := 11) (oi := _) (v := undef) rfl (by kernel_rfl) (by kernel_rfl) (by kernel_rfl) (by kernel_rfl) (fun _ _ _ h => h) (Or.inr ⟨by rfl, rfl⟩) (by assumption) ?_
                (try simp only [Act.put, List.getElem_toArray, List.getElem_cons_succ, List.getElem_cons_zero, List.setIfInBounds_toArray, List.set_cons_zero, List.set_cons_succ])
                refine wpAnyF_take (i := 12) (oi := _) (v := undef) rfl (by kernel_rfl) (by kernel_rfl) (by kernel_rfl) (by kernel_rfl) (fun _ _ _ h => h) (Or.inr ⟨by rfl, rfl⟩) (by assumption) ?_
                (try simp only [Act.put, List.getElem_toArray, List.getElem_cons_succ, List.getElem_cons_zero, List.setIfInBounds_toArray, List.set_cons_zero, List.set_cons_succ])
                refine wpAnyF_take (i := 13) (oi := _) (v := undef) rfl (by kernel_rfl) (by kernel_rfl) (by kernel_rfl) (by kernel_rfl) (fun _ _ _ h => h) (Or.inr ⟨by rfl, rfl⟩) (by assumption) ?_
                (try simp only [Act.put, List.getElem_toArray, List.getElem_cons_succ, List.getElem_cons_zero, List.setIfInBounds_toArray, List.set_cons_zero, List.set_cons_succ])
                refine wpAnyF_take (i := 14) (oi := _) (v := ?_) rfl (by kernel_rfl) (by kernel_rfl) (by kernel_rfl) (by kernel_rfl) (fun _ _ _ h => h) (Or.inl ⟨by rfl, ?_⟩) (by assumption) ?_
                rotate_left 1
                · intro w hSw
                  (try dsimp only at hSw)
                  (first | (go_simp; done) | (go_simp; with_reducible rfl))
                (try simp only [Act.put, List.getElem_toArray, List.getElem_cons_succ, List.getElem_cons_zero, List.setIfInBounds_toArray, List.set_cons_zero, List.set_cons_succ])
                refine wpAnyF_take (i := 15) (oi := _) (v := ?_) rfl (by kernel_rfl) (by kernel_rfl) (by kernel_rfl) (by kernel_rfl) (fun _ _ _ h => h) (Or.inl ⟨by rfl, ?_⟩) (by assumption) ?_
                rotate_left 1
                · intro w hSw
                  (try dsimp only at hSw)
                  (first | (go_simp; done) | (go_simp; with_reducible rfl))
                (try simp only [Act.put, List.getElem_toArray, List.getElem_cons_succ, List.getElem_cons_zero, List.setIfInBounds_toArray, List.set_cons_zero, List.set_cons_succ])
                refine wpAnyF_take (i := 16) (oi := _) (v := undef) rfl (by kernel_rfl) (by kernel_rfl) (by kernel_rfl) (by kernel_rfl) (fun _ _ _ h => h) (Or.inr ⟨by rfl, rfl⟩) (by assumption) ?_
                (try simp only [Act.put, List.getElem_toArray, List.getElem_cons_succ, List.getElem_cons_zero, List.setIfInBounds_toArray, List.set_cons_zero, List.set_cons_succ])
                refine wpAnyF_take (i := 17) (oi := _) (v := undef) rfl (by kernel_rfl) (by kernel_rfl) (by kernel_rfl) (by kernel_rfl) (fun _ _ _ h => h) (Or.inr ⟨by rfl, rfl⟩) (by assumption) ?_
                (try simp only [Act.put, List.getElem_toArray, List.getElem_cons_succ, List.getElem_cons_zero, List.setIfInBounds_toArray, List.set_cons_zero, List.set_cons_succ])
                refine wpAnyF_take (i := 18) (oi := _) (v := undef) rfl (by kernel_rfl) (by kernel_rfl) (by kernel_rfl) (by kernel_rfl) (fun _ _ _ h => h) (Or.inr ⟨by rfl, rfl⟩) (by assumption) ?_
                (try simp only [Act.put, List.getElem_toArray, List.getElem_cons_succ, List.getElem_cons_zero, List.setIfInBounds_toArray, List.set_cons_zero, List.set_cons_succ])
                refine wpAnyF_take (i := 19) (oi := _) (v := undef) rfl (by kernel_rfl) (by kernel_rfl) (by kernel_rfl) (by kernel_rfl) (fun _ _ _ h => h) (Or.inr ⟨by rfl, rfl⟩) (by assumption) ?_
                (try simp only [Act.put, List.getElem_toArray, List.getElem_cons_succ, List.getElem_cons_zero, List.setIfInBounds_toArray, List.set_cons_zero, List.set_cons_succ])
                refine wpAnyF_take (i := 20) (oi := _) (v := undef) rfl (by kernel_rfl) (by kernel_rfl) (by kernel_rfl) (by kernel_rfl) (fun _ _ _ h => h) (Or.inr ⟨by rfl, rfl⟩) (by assumption) ?_
                (try simp only [Act.put, List.getElem_toArray, List.getElem_cons_succ, List.getElem_cons_zero, List.setIfInBounds_toArray, List.set_cons_zero, List.set_cons_succ])
                refine wpAnyF_take (i := 21) (oi := _) (v := undef) rfl (by kernel_rfl) (by kernel_rfl) (by kernel_rfl) (by kernel_rfl) (fun _ _ _ h => h) (Or.inr ⟨by rfl, rfl⟩) (by assumption) ?_
                (try simp only [Act.put, List.getElem_toArray, List.getElem_cons_succ, List.getElem_cons_zero, List.setIfInBounds_toArray, List.set_cons_zero, List.set_cons_succ])
                refine wpAnyF_take (i := 22) (oi := _) (v := undef) rfl (by kernel_rfl) (by kernel_rfl) (by kernel_rfl) (by kernel_rfl) (fun _ _ _ h => h) (Or.inr ⟨by rfl, rfl⟩) (by assumption) ?_
                (try simp only [Act.put, List.getElem_toArray, List.getElem_cons_succ, List.getElem_cons_zero, List.setIfInBounds_toArray, List.set_cons_zero, List.set_cons_succ])
                refine wpAnyF_take (i := 23) (oi := _) (v := undef) rfl (by kernel_rfl) (by kernel_rfl) (by kernel_rfl) (by kernel_rfl) (fun _ _ _ h => h) (Or.inr ⟨by rfl, rfl⟩) (by assumption) ?_
                (try simp only [Act.put, List.getElem_toArray, List.getElem_cons_succ, List.getElem_cons_zero, List.setIfInBounds_toArray, List.set_cons_zero, List.set_cons_succ])
                refine wpAnyF_take (i := 24) (oi := _) (v := undef) rfl (by kernel_rfl) (by kernel_rfl) (by kernel_rfl) (by kernel_rfl) (fun _ _ _ h => h) (Or.inr ⟨by rfl, rfl⟩) (by assumption) ?_
                (try simp only [Act.put, List.getElem_toArray, List.getElem_cons_succ, List.getElem_cons_zero, List.setIfInBounds_toArray, List.set_cons_zero, List.set_cons_succ])
                refine wpAnyF_take (i := 25) (oi := _) (v := ?_) rfl (by kernel_rfl) (by kernel_rfl) (by kernel_rfl) (by kernel_rfl) (fun _ _ _ h => h) (Or.inl ⟨by rfl, ?_⟩) (by assumption) ?_
                rotate_left 1
                · intro w hSw
                  (try dsimp only at hSw)
                  (first | (go_simp; done) | (go_simp; with_reducible rfl))
                (try simp only [Act.put, List.getElem_toArray, List.getElem_cons_succ, List.getElem_cons_zero, List.setIfInBounds_toArray, List.set_cons_zero, List.set_cons_succ])
                refine wpAnyF_take (i := 26) (oi := _) (v := ?_) rfl (by kernel_rfl) (by kernel_rfl) (by kernel_rfl) (by kernel_rfl) (fun _ _ _ h => h) (Or.inl ⟨by rfl, ?_⟩) (by assumption) ?_
                rotate_left 1
                · intro w hSw
                  (try dsimp only at hSw)
                  (first | (go_simp; done) | (go_simp; with_reducible rfl))
                (try simp only [Act.put, List.getElem_toArray, List.getElem_cons_succ, List.getElem_cons_zero, List.setIfInBounds_toArray, List.set_cons_zero, List.set_cons_succ])
                refine wpAnyF_take (i := 27) (oi := _) (v := ?_) rfl (by kernel_rfl) (by kernel_rfl) (by kernel_rfl) (by kernel_rfl) (fun _ _ _ h => h) (Or.inl ⟨by rfl, ?_⟩) (by assumption) ?_
                rotate_left 1
                · intro w hSw
                  (try dsimp only at hSw)
                  (first | (go_simp; done) | (go_simp; with_reducible rfl))
                (try simp only [Act.put, List.getElem_toArray, List.getElem_cons_succ, List.getElem_cons_zero, List.setIfInBounds_toArray, List.set_cons_zero, List.set_cons_succ])
                refine wpAnyF_done (by kernel_rfl) ?_ _
                have HLAST := Lib.hid (HRD.out _ false hHeld.2.2.2.2.2.2 (HYN.out false ⟨fun h => (by cases h), fun h => h.elim id (fun h => absurd (HMT.out.1 h).1 hEE)⟩))
                go_wp2
                go_roundw
                case rel => exact HLAST.out
                case measure => simp [intOf]; omega

            · refine wp_region_F (S := fun (W : World) => W.cell? ⟨p8, 1, none⟩ = some (.int .u64 (E : Int)) ∧ W.cell? ⟨p8, 2, none⟩ = some (.int .i64 (Bk : Int)) ∧ W.cell? ⟨p8, 3, none⟩ = some (.slice A0 n0 c0) ∧ W.cell? ⟨p10, 1, none⟩ = some (.int .u64 (Ej : Int)) ∧ W.cell? ⟨p10, 2, none⟩ = some (.int .i64 B1) ∧ W.cell? ⟨p10, 3, none⟩ = some (.slice A1 n1 c1) ∧ Below V.heap.size V W) [] (by kernel_rfl) (HK7.out _ ((Below.refl _ _).drew)) (fun hHeld => ?_)
              refine wpAnyF_take (i := 0) (oi := _) (v := ?_) rfl (by kernel_rfl) (by kernel_rfl) (by kernel_rfl) (by kernel_rfl) (fun _ _ _ h => h) (Or.inl ⟨by rfl, ?_⟩) (by assumption) ?_
              rotate_left 1
              · intro w hSw
                (try dsimp only at hSw)
                (first | (go_simp; done) | (go_simp; with_reducible rfl))
              (try simp only [Act.put, List.getElem_toArray, List.getElem_cons_succ, List.getElem_cons_zero, List.setIfInBounds_toArray, List.set_cons_zero, List.set_cons_succ])
              refine wpAnyF_take (i := 1) (oi := _) (v := ?_) rfl (by kernel_rfl) (by kernel_rfl) (by kernel_rfl) (by kernel_rfl) (fun _ _ _ h => h) (Or.inl ⟨by rfl, ?_⟩) (by assumption) ?_
              rotate_left 1
              · intro w hSw
                (try dsimp only at hSw)
                (first | (go_simp; done) | (go_simp; with_reducible rfl))
              (try simp only [Act.put, List.getElem_toArray, List.getElem_cons_succ, List.getElem_cons_zero, List.setIfInBounds_toArray, List.set_cons_zero, List.set_cons_succ])
              refine wpAnyF_take (i := 2) (oi := _) (v := undef) rfl (by kernel_rfl) (by kernel_rfl) (by kernel_rfl) (by kernel_rfl) (fun _ _ _ h => h) (Or.inr ⟨by rfl, rfl⟩) (by assumption) ?_
              (try simp only [Act.put, List.getElem_toArray, List.getElem_cons_succ, List.getElem_cons_zero, List.setIfInBounds_toArray, List.set_cons_zero, List.set_cons_succ])
              refine wpAnyF_take (i := 3) (oi := _) (v := undef) rfl (by kernel_rfl) (by kernel_rfl) (by kernel_rfl) (by kernel_rfl) (fun _ _ _ h => h) (Or.inr ⟨by rfl, rfl⟩) (by assumption) ?_
              (try simp only [Act.put, List.getElem_toArray, List.getElem_cons_succ, List.getElem_cons_zero, List.setIfInBounds_toArray, List.set_cons_zero, List.set_cons_succ])
              refine wpAnyF_take (i := 4) (oi := _) (v := undef) rfl (by kernel_rfl) (by kernel_rfl) (by kernel_rfl) (by kernel_rfl) (fun _ _ _ h => h) (Or.inr ⟨by rfl, rfl⟩) (by assumption) ?_
              (try simp only [Act.put, List.getElem_toArray, List.getElem_cons_succ, List.getElem_cons_zero, List.setIfInBounds_toArray, List.set_cons_zero, List.set_cons_succ])
              refine wpAnyF_take (i := 5) (oi := _) (v := undef) rfl (by kernel_rfl) (by kernel_rfl) (by kernel_rfl) (by kernel_rfl) (fun _ _ _ h => h) (Or.inr ⟨by rfl, rfl⟩) (by assumption) ?_
              (try simp only [Act.put, List.getElem_toArray, List.getElem_cons_succ, List.getElem_cons_zero, List.setIfInBounds_toArray, List.set_cons_zero, List.set_cons_succ])
              refine wpAnyF_take (i := 6) (oi := _) (v := undef) rfl (by kernel_rfl) (by kernel_rfl) (by kernel_rfl) (by kernel_rfl) (fun _ _ _ h => h) (Or.inr ⟨by rfl, rfl⟩) (by assumption) ?_
              (try simp only [Act.put, List.getElem_toArray, List.getElem_cons_succ, List.getElem_cons_zero, List.setIfInBounds_toArray, List.set_cons_zero, List.set_cons_succ])
              refine wpAnyF_take (i := 7) (oi := _) (v := undef) rfl (by kernel_rfl) (by kernel_rfl) (by kernel_rfl) (by kernel_rfl) (fun _ _ _ h => h) (Or.inr ⟨by rfl, rfl⟩) (by assumption) ?_
              (try simp only [Act.put, List.getElem_toArray, List.getElem_cons_succ, List.getElem_cons_zero, List.setIfInBounds_toArray, List.set_cons_zero, List.set_cons_succ])
              refine wpAnyF_take (i := 8) (oi := _) (v := undef) rfl (by kernel_rfl) (by kernel_rfl) (by kernel_rfl) (by kernel_rfl) (fun _ _ _ h => h) (Or.inr ⟨by rfl, rfl⟩) (by assumption) ?_
              (try simp only [Act.put, List.getElem_toArray, List.getElem_cons_succ, List.getElem_cons_zero, List.setIfInBounds_toArray, List.set_cons_zero, List.set_cons_succ])
              refine wpAnyF_take (i := 9) (oi := _) (v := undef) rfl (by kernel_rfl) (by kernel_rfl) (by kernel_rfl) (by kernel_rfl) (fun _ _ _ h => h) (Or.inr ⟨by rfl, rfl⟩) (by assumption) ?_
              (try simp only [Act.put, List.getElem_toArray, List.getElem_cons_succ, List.getElem_cons_zero, List.setIfInBounds_toArray, List.set_cons_zero, List.set_cons_succ])
              refine wpAnyF_take (i := 10) (oi := _) (v := undef) rfl (by kernel_rfl) (by kernel_rfl) (by kernel_rfl) (by kernel_rfl) (fun _ _ _ h => h) (Or.inr ⟨by rfl, rfl⟩) (by assumption) ?_
              (try simp only [Act.put, List.getElem_toArray, List.getElem_cons_succ, List.getElem_cons_zero, List.setIfInBounds_toArray, List.set_cons_zero, List.set_cons_succ])
              refine wpAnyF_take (i := 11) (oi := _) (v := undef) rfl (by kernel_rfl) (by kernel_rfl) (by kernel_rfl) (by kernel_rfl) (fun _ _ _ h => h) (Or.inr ⟨by rfl, rfl⟩) (by assumption) ?_
              (try simp only [Act.put, List.getElem_toArray, List.getElem_cons_succ, List.getElem_cons_zero, List.setIfInBounds_toArray, List.set_cons_zero, List.set_cons_succ])
              refine wpAnyF_take (i := 12) (oi := _) (v := undef) rfl (by kernel_rfl) (by kernel_rfl) (by kernel_rfl) (by kernel_rfl) (fun _ _ _ h => h) (Or.inr ⟨by rfl, rfl⟩) (by assumption) ?_
              (try simp only [Act.put, List.getElem_toArray, List.getElem_cons_succ, List.getElem_cons_zero, List.setIfInBounds_toArray, List.set_cons_zero, List.set_cons_succ])
              refine wpAnyF_take (i := 13) (oi := _) (v := undef) rfl (by kernel_rfl) (by kernel_rfl) (by kernel_rfl) (by kernel_rfl) (fun _ _ _ h => h) (Or.inr ⟨by rfl, rfl⟩) (by assumption) ?_
              (try simp only [Act.put, List.getElem_toArray, List.getElem_cons_succ, List.getElem_cons_zero, List.setIfInBounds_toArray, List.set_cons_zero, List.set_cons_succ])
              refine wpAnyF_take (i := 14) (oi := _) (v := undef) rfl (by kernel_rfl) (by kernel_rfl) (by kernel_rfl) (by kernel_rfl) (fun _ _ _ h => h) (Or.inr ⟨by rfl, rfl⟩) (by assumption) ?_
              (try simp only [Act.put, List.getElem_toArray, List.getElem_cons_succ, List.getElem_cons_zero, List.setIfInBounds_toArray, List.set_cons_zero, List.set_cons_succ])
              refine wpAnyF_take (i := 15) (oi := _) (v := undef) rfl (by kernel_rfl) (by kernel_rfl) (by kernel_rfl) (by kernel_rfl) (fun _ _ _ h => h) (Or.inr ⟨by rfl, rfl⟩) (by assumption) ?_
              (try simp only [Act.put, List.getElem_toArray, List.getElem_cons_succ, List.getElem_cons_zero, List.setIfInBounds_toArray, List.set_cons_zero, List.set_cons_succ])
              refine wpAnyF_take (i := 16) (oi := _) (v := undef) rfl (by kernel_rfl) (by kernel_rfl) (by kernel_rfl) (by kernel_rfl) (fun _ _ _ h => h) (Or.inr ⟨by rfl, rfl⟩) (by assumption) ?_
              (try simp only [Act.put, List.getElem_toArray, List.getElem_cons_succ, List.getElem_cons_zero, List.setIfInBounds_toArray, List.set_cons_zero, List.set_cons_succ])
              refine wpAnyF_take (i := 17) (oi := _) (v := undef) rfl (by kernel_rfl) (by kernel_rfl) (by kernel_rfl) (by kernel_rfl) (fun _ _ _ h => h) (Or.inr ⟨by rfl, rfl⟩) (by assumption) ?_
              (try simp only [Act.put, List.getElem_toArray, List.getElem_cons_succ, List.getElem_cons_zero, List.setIfInBounds_toArray, List.set_cons_zero, List.set_cons_succ])
              refine wpAnyF_take (i := 18) (oi := _) (v := undef) rfl (by kernel_rfl) (by kernel_rfl) (by kernel_rfl) (by kernel_rfl) (fun _ _ _ h => h) (Or.inr ⟨by rfl, rfl⟩) (by assumption) ?_
              (try simp only [Act.put, List.getElem_toArray, List.getElem_cons_succ, List.getElem_cons_zero, List.setIfInBounds_toArray, List.set_cons_zero, List.set_cons_succ])
              refine wpAnyF_take (i := 19) (oi := _) (v := undef) rfl (by kernel_rfl) (by kernel_rfl) (by kernel_rfl) (by kernel_rfl) (fun _ _ _ h => h) (Or.inr ⟨by rfl, rfl⟩) (by assumption) ?_
              (try simp only [Act.put, List.getElem_toArray, List.getElem_cons_succ, List.getElem_cons_zero, List.setIfInBounds_toArray, List.set_cons_zero, List.set_cons_succ])
              refine wpAnyF_take (i := 20) (oi := _) (v := undef) rfl (by kernel_rfl) (by kernel_rfl) (by kernel_rfl) (by kernel_rfl) (fun _ _ _ h => h) (Or.inr ⟨by rfl, rfl⟩) (by assumption) ?_
              (try simp only [Act.put, List.getElem_toArray, List.getElem_cons_succ, List.getElem_cons_zero, List.setIfInBounds_toArray, List.set_cons_zero, List.set_cons_succ])
              refine wpAnyF_take (i := 21) (oi := _) (v := undef) rfl (by kernel_rfl) (by kernel_rfl) (by kernel_rfl) (by kernel_rfl) (fun _ _ _ h => h) (Or.inr ⟨by rfl, rfl⟩) (by assumption) ?_
              (try simp only [Act.put, List.getElem_toArray, List.getElem_cons_succ, List.getElem_cons_zero, List.setIfInBounds_toArray, List.set_cons_zero, List.set_cons_succ])
              refine wpAnyF_take (i := 22) (oi := _) (v := undef) rfl (by kernel_rfl) (by kernel_rfl) (by kernel_rfl) (by kernel_rfl) (fun _ _ _ h => h) (Or.inr ⟨by rfl, rfl⟩) (by assumption) ?_
              (try simp only [Act.put, List.getElem_toArray, List.getElem_cons_succ, List.getElem_cons_zero, List.setIfInBounds_toArray, List.set_cons_zero, List.set_cons_succ])
              refine wpAnyF_take (i := 23) (oi := _) (v := undef) rfl (by kernel_rfl) (by kernel_rfl) (by kernel_rfl) (by kernel_rfl) (fun _ _ _ h => h) (Or.inr ⟨by rfl, rfl⟩) (by assumption) ?_
              (try simp only [Act.put, List.getElem_toArray, List.getElem_cons_succ, List.getElem_cons_zero, List.setIfInBounds_toArray, List.set_cons_zero, List.set_cons_succ])
              refine wpAnyF_take (i := 24) (oi := _) (v := undef) rfl (by kernel_rfl) (by kernel_rfl) (by kernel_rfl) (by kernel_rfl) (fun _ _ _ h => h) (Or.inr ⟨by rfl, rfl⟩) (by assumption) ?_
              (try simp only [Act.put, List.getElem_toArray, List.getElem_cons_succ, List.getElem_cons_zero, List.setIfInBounds_toArray, List.set_cons_zero, List.set_cons_succ])
              refine wpAnyF_take (i := 25) (oi := _) (v := undef) rfl (by kernel_rfl) (by kernel_rfl) (by kernel_rfl) (by kernel_rfl) (fun _ _ _ h => h) (Or.inr ⟨by rfl, rfl⟩) (by assumption) ?_
              (try simp only [Act.put, List.getElem_toArray, List.getElem_cons_succ, List.getElem_cons_zero, List.setIfInBounds_toArray, List.set_cons_zero, List.set_cons_succ])
              refine wpAnyF_take (i := 26) (oi := _) (v := ?_) rfl (by kernel_rfl) (by kernel_rfl) (by kernel_rfl) (by kernel_rfl) (fun _ _ _ h => h) (Or.inl ⟨by rfl, ?_⟩) (by assumption) ?_
              rotate_left 1
              · intro w hSw
                (try dsimp only at hSw)
                (first | (go_simp; done) | (go_simp; with_reducible rfl))
              (try simp only [Act.put, List.getElem_toArray, List.getElem_cons_succ, List.getElem_cons_zero, List.setIfInBounds_toArray, List.set_cons_zero, List.set_cons_succ])
              refine wpAnyF_take (i := 27) (oi := _) (v := ?_) rfl (by kernel_rfl) (by kernel_rfl) (by kernel_rfl) (by kernel_rfl) (fun _ _ _ h => h) (Or.inl ⟨by rfl, ?_⟩) (by assumption) ?_
              rotate_left 1
              · intro w hSw
                (try dsimp only at hSw)
                (first | (go_simp; done) | (go_simp; with_reducible rfl))
              (try simp only [Act.put, List.getElem_toArray, List.getElem_cons_succ, List.getElem_cons_zero, List.setIfInBounds_toArray, List.set_cons_zero, List.set_cons_succ])
              refine wpAnyF_done (by kernel_rfl) ?_ _
              have HLAST := Lib.hid (HRD.out _ true hHeld.2.2.2.2.2.2 (HYN.out true ⟨fun _ => Or.inl rfl, fun _ => rfl⟩))
              go_wp2
              go_roundw
              case rel => exact HLAST.out
              case measure => simp [intOf]; omega

          · obtain rfl : j = k := by omega
            have HND : Hid (y = true ↔ Dif ee bb pp (j + 1)) := Lib.hid (by rw [HY.out, HT.out, Dif.succ])
            have HSJ := Lib.hid (HS6.out.next HBJ.out)
            go_wp2
            go_roundw
            case rel => exact ⟨j + 1, y, u6, te6, tb6, F6, by simp, rfl, by omega, by omega, HND.out, HSJ.out, HFW6.out, HINV6.out, HBJw.out⟩
            case measure => simp [intOf]; omega
      · have h20i : (20 : Int) ≤ (k : Int) := by omega
        have h20j : decide ((20 : Int) ≤ (k : Int)) = true := decide_eq_true h20i
        have HB5 := Lib.hid (HB.out.trans ((al wr (.cells #[.int .i64 (R k).k, .int .u64 ((R k).e : Int), .int .i64 (R k).b, .slice (R k).A (R k).n (R k).c] TO)).mono HB.out.size))
        have HS5 := Lib.hid (HS.out.next (al wr (.cells #[.int .i64 (R k).k, .int .u64 ((R k).e : Int), .int .i64 (R k).b, .slice (R k).A (R k).n (R k).c] TO)))
        obtain rfl : T = u := same_bool HT.out HINV.out.told
        go_wp2_with fail
        generalize wr.alloc (.cells #[.int .i64 (R k).k, .int .u64 ((R k).e : Int), .int .i64 (R k).b, .slice (R k).A (R k).n (R k).c] TO) = wq at *
        refine (sTwice_any g 10 ks bm k te tb F T wq HS5.out).mono ?_
        rintro r w4 ⟨rfl, hb4⟩
        have HB4 := Lib.hid (HB5.out.trans ((hb4.alloc hb4.size (.cells #[.int .u64 (te : Int), .int .i64 (tb : Int)] TN)).mono HB5.out.size))
        clear hb4
        go_wp2_with fail
        generalize w4.alloc (.cells #[.int .u64 (te : Int), .int .i64 (tb : Int)] TN) = w5 at *
        refine (awake10_any w5).mono ?_
        rintro r w7 ⟨rfl, hb7⟩
        have HB7 := Lib.hid (HB4.out.trans (hb7.mono HB4.out.size))
        clear hb7
        go_wp2
        go_ret
        exact ⟨rfl, HB7.out⟩
    · obtain rfl : k = n := by omega
      obtain rfl : T = u := same_bool HT.out HINV.out.told
      go_wp2_with fail
      refine (sTwice_any g 10 ks bm k te tb F T wr HS.out).mono ?_
      rintro r w4 ⟨rfl, hb4⟩
      have HB4 := Lib.hid (HB.out.trans ((hb4.alloc hb4.size (.cells #[.int .u64 (te : Int), .int .i64 (tb : Int)] TN)).mono HB.out.size))
      clear hb4
      go_wp2_with fail
      generalize w4.alloc (.cells #[.int .u64 (te : Int), .int .i64 (tb : Int)] TN) = w5 at *
      refine (awake10_any w5).mono ?_
      rintro r w7 ⟨rfl, hb7⟩
      have HB7 := Lib.hid (HB4.out.trans (hb7.mono HB4.out.size))
      clear hb7
      go_wp2
      go_ret
      exact ⟨rfl, HB7.out⟩
end
end Go.Proofs.Ythjpaligpojlnaa
