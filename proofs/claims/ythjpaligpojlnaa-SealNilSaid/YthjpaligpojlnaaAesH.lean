/-
  Encrypt.
-/
import Derived.Test.YthjpaligpojlnaaAesG
namespace Go.Proofs.Ythjpaligpojlnaa
open Go.RowKit Go
set_option maxRecDepth 100000
set_option linter.unusedVariables false
attribute [local irreducible] Gf.inv Gf.tm Gf.pw Gf.spread Gf.sub Gf.boxAt Gf.bk Gf.rm Gf.bit
def tAdd (K F : Nat → Nat) (i : Nat) : Nat := F i ^^^ K i
def tSub (F : Nat → Nat) (i : Nat) : Nat := Gf.sub (F i)
def tBk (F : Nat → Nat) (i : Nat) : Nat := Gf.bk (F i)
def tMix (fa F : Nat → Nat) (i : Nat) : Nat := mixC fa (fun q => F (4 * (i / 4) + q)) (i % 4)
section
variable {gb gk o : Nat} {K : Nat → Nat}
theorem ok_add_ (hK : ∀ i, K i < 256) : StepOk gb gk o K 87 (tAdd K) :=
  ⟨fun _ _ => rfl, fun F hF i => Gf.xor_lt (hF i) (hK i), fun gs F W hF hs _ _ hk hkn => add_any gs gb gk o F K W hF hs hk hkn⟩
theorem ok_sub_ : StepOk gb gk o K 88 tSub :=
  ⟨fun _ _ => rfl, fun F hF i => Gf.sub_lt (hF i), fun gs F W hF hs hb hbn _ _ => stSub_any gs gb gk o F W hF hs hb hbn⟩
theorem ok_mix_ : StepOk gb gk o K 90 (tMix facM) :=
  ⟨fun _ _ => rfl, fun F hF i => mixC_lt (fun q => hF _) _, fun gs F W hF hs _ _ _ _ => stMix_any gs gb gk o F W hF hs⟩
theorem ok_shift_ : StepOk gb gk o K 89 (shF 1) :=
  ⟨fun _ _ => rfl, fun F hF i => hF _, fun gs F W hF hs _ _ _ _ => shift_any gs _ F W hF hs _ _ rfl⟩
end
/-! the steps over lists -/
theorem add_is {s : List Nat} {K : Nat → Nat} {i : Nat} (hi : i < 16) : (Aes.add s K).getD i 0 = tAdd K (fun j => s.getD j 0) i := by unfold Aes.add; rw [Aes.tab_at _ hi]; rfl
theorem sub_is {s : List Nat} {i : Nat} (hi : i < 16) : (Aes.sub Gf.sub s).getD i 0 = tSub (fun j => s.getD j 0) i := by unfold Aes.sub; rw [Aes.tab_at _ hi]; rfl
theorem bk_is {s : List Nat} {i : Nat} (hi : i < 16) : (Aes.sub Gf.bk s).getD i 0 = tBk (fun j => s.getD j 0) i := by unfold Aes.sub; rw [Aes.tab_at _ hi]; rfl
theorem shift_is {b : Nat} {s : List Nat} {i : Nat} (hi : i < 16) : (Aes.shift b s).getD i 0 = shF b (fun j => s.getD j 0) i := by unfold Aes.shift; rw [Aes.tab_at _ hi]; rfl
theorem mix_is {fa : Nat → Nat} {s : List Nat} {i : Nat} (hi : i < 16) : (Aes.mix fa s).getD i 0 = tMix fa (fun j => s.getD j 0) i := by unfold Aes.mix; rw [Aes.tab_at _ hi]; rfl
theorem shF_congr {b : Nat} {F G : Nat → Nat} (h : ∀ i, i < 16 → F i = G i) {i : Nat} (hi : i < 16) : shF b F i = shF b G i := h _ (by omega)
theorem tMix_congr {fa F G : Nat → Nat} (h : ∀ i, i < 16 → F i = G i) {i : Nat} (hi : i < 16) : tMix fa F i = tMix fa G i := by
  unfold tMix
  exact Aes.mixC_congr fa (fun q hq => h _ (by omega)) _
/-- a middle round -/
theorem round_is (s : List Nat) (K : Nat → Nat) {i : Nat} (hi : i < 16) :
    (Aes.add (Aes.mix facM (Aes.shift 1 (Aes.sub Gf.sub s))) K).getD i 0 = tAdd K (tMix facM (shF 1 (tSub fun j => s.getD j 0))) i := by
  rw [add_is hi]
  unfold tAdd
  dsimp only
  rw [mix_is hi, tMix_congr (fun j hj => (shift_is hj).trans (shF_congr (fun m hm => sub_is hm) hj)) hi]
theorem last_is (s : List Nat) (K : Nat → Nat) {i : Nat} (hi : i < 16) :
    (Aes.add (Aes.shift 1 (Aes.sub Gf.sub s)) K).getD i 0 = tAdd K (shF 1 (tSub fun j => s.getD j 0)) i := by
  rw [add_is hi]
  unfold tAdd
  dsimp only
  rw [shift_is hi, shF_congr (fun m hm => sub_is hm) hi]
def fid1 (i : Nat) : FuncId := 87
def fid4 (i : Nat) : FuncId := match i with | 0 => 88 | 1 => 89 | 2 => 90 | _ => 87
def fid3 (i : Nat) : FuncId := match i with | 0 => 88 | 1 => 89 | _ => 87
def T1 (K : Nat → Nat) (i : Nat) : (Nat → Nat) → Nat → Nat := tAdd K
def T4 (K : Nat → Nat) (i : Nat) : (Nat → Nat) → Nat → Nat := match i with | 0 => tSub | 1 => shF 1 | 2 => tMix facM | _ => tAdd K
def T3 (K : Nat → Nat) (i : Nat) : (Nat → Nat) → Nat → Nat := match i with | 0 => tSub | 1 => shF 1 | _ => tAdd K
theorem steps_of {w : World} {b n : Nat} {fid : Nat → FuncId} {cs : Array Value} {t : TypeId} (h : w.heap[b]? = some (.cells cs t (0, 0))) (hc : ∀ i, i < n → cs[i]? = some (.func (Fn.func (fid i)) #[] #[])) : Steps w b n fid :=
  ⟨blk_lt h, fun i hi => (blk_cell h i).trans (hc i hi)⟩
theorem Steps.next {w w' : World} {b n : Nat} {fid : Nat → FuncId} (h : Steps w b n fid) (hb : Below w.heap.size w w') : Steps w' b n fid :=
  ⟨Nat.lt_of_lt_of_le h.1 hb.size, fun i hi => (hb.cell (p := ⟨b, i, none⟩) h.1).trans (h.2 i hi)⟩
theorem ok1 {gb gk o : Nat} {K : Nat → Nat} (hK : ∀ i, K i < 256) : ∀ i, i < 1 → StepOk gb gk o K (fid1 i) (T1 K i) := fun i _ => ok_add_ hK
theorem ok4 {gb gk o : Nat} {K : Nat → Nat} (hK : ∀ i, K i < 256) : ∀ i, i < 4 → StepOk gb gk o K (fid4 i) (T4 K i) := fun i hi => by
  rcases (by omega : i = 0 ∨ i = 1 ∨ i = 2 ∨ i = 3) with rfl | rfl | rfl | rfl
  · exact ok_sub_
  · exact ok_shift_
  · exact ok_mix_
  · exact ok_add_ hK
theorem ok3 {gb gk o : Nat} {K : Nat → Nat} (hK : ∀ i, K i < 256) : ∀ i, i < 3 → StepOk gb gk o K (fid3 i) (T3 K i) := fun i hi => by
  rcases (by omega : i = 0 ∨ i = 1 ∨ i = 2) with rfl | rfl | rfl
  · exact ok_sub_
  · exact ok_shift_
  · exact ok_add_ hK
set_option maxHeartbeats 400000 in
theorem rounds_any (g N : Nat) (ks : List Nat) (w : World) (h : Cip w g N ks) : Calls Try.prog 93 #[.pointer (some ⟨g, 0, none⟩)] w fun e w' => e = .returned (.int .i64 (N : Int)) ∧ w = w' := by
  have k0 := h.rounds
  clear h
  go_enter Try.func93, Try.ntmps93
  go_wp2
  go_ret
  exact ⟨rfl, rfl⟩
set_option maxHeartbeats 400000 in
theorem none_no (g N : Nat) (ks : List Nat) (w : World) (h : Cip w g N ks) : Calls Try.prog 83 #[.pointer (some ⟨g, 0, none⟩)] w fun e w' => e = .returned (.bool false) ∧ w = w' := by
  have hN := h.some_.1
  have HC := Lib.hid h
  have h0 : ((N : Int) == 0) = false := by rw [beq_eq_false_iff_ne]; omega
  clear h
  go_enter Try.func83, Try.ntmps83
  go_wp2_with fail
  refine (rounds_any g N ks _ HC.out).mono ?_
  rintro e w' ⟨rfl, rfl⟩
  go_wp2
  go_ret
  exact ⟨by first | rfl | (rw [h0]) | (congr 2; rw [Bool.eq_iff_iff]; simp; omega), rfl⟩
theorem round0 (g : Nat) (w : World) : Calls Try.prog 86 #[.pointer (some ⟨g, 0, none⟩), .int .i64 0] w fun e w' => e = .returned (rndV g g (513 + 0 * 16)) ∧ Below w.heap.size w w' := round_any g 0 (by omega) w
structure EncS (w : World) (gs : Nat) (F : Nat → Nat) (wr : World) : Prop where
  below : Below w.heap.size w wr
  far : w.heap.size + 1 < gs
  out : wr.heap[w.heap.size + 1]? = some (.cells (rowV (bF z16) 16) 22 (0, 0))
  st : St wr gs F
theorem EncS.next {w wr W : World} {gs : Nat} {F : Nat → Nat} (h : EncS w gs F wr) (hb : Below wr.heap.size wr W) : EncS w gs F W :=
  ⟨h.below.trans (hb.mono h.below.size), h.far, (hb.block _ (blk_lt h.out)).trans h.out, h.st.next hb⟩
theorem EncS.turn {w wr W : World} {gs : Nat} {F G : Nat → Nat} (h : EncS w gs F wr) (hg : wr.grownBy W (some gs)) (hs : St W gs G) : EncS w gs G W :=
  ⟨h.below.trans ⟨hg.os, hg.tape, hg.output, hg.size, fun i hi => hg.block i (Nat.lt_of_lt_of_le hi h.below.size) (fun e => by injection e with e; have := h.far; omega)⟩, h.far,
    (hg.block _ (blk_lt h.out) (fun e => by injection e with e; have := h.far; omega)).trans h.out, hs⟩
def EncRel (w : World) (gs N : Nat) (ks p : List Nat) (v : Value) (wr : World) : Prop :=
  ∃ k : Nat, v = .int .i64 (k : Int) ∧ 1 ≤ k ∧ k ≤ N ∧ EncS w gs (fun i => (Aes.encR Gf.sub ks p (k - 1)).getD i 0) wr
abbrev fn0 (f : FuncId) : Value := .func (Fn.func f) #[] #[]
abbrev ops1 : Array Value := #[fn0 87]
abbrev ops3 : Array Value := #[fn0 88, fn0 89, fn0 87]
abbrev ops4 : Array Value := #[fn0 88, fn0 89, fn0 90, fn0 87]
theorem ops1_at : ∀ i, i < 1 → ops1[i]? = some (.func (Fn.func (fid1 i)) #[] #[]) := fun i hi => by obtain rfl : i = 0 := by omega
                                                                                                    rfl
theorem ops3_at : ∀ i, i < 3 → ops3[i]? = some (.func (Fn.func (fid3 i)) #[] #[]) := fun i hi => by rcases (by omega : i = 0 ∨ i = 1 ∨ i = 2) with rfl | rfl | rfl <;> rfl
theorem ops4_at : ∀ i, i < 4 → ops4[i]? = some (.func (Fn.func (fid4 i)) #[] #[]) := fun i hi => by rcases (by omega : i = 0 ∨ i = 1 ∨ i = 2 ∨ i = 3) with rfl | rfl | rfl | rfl <;> rfl
/-- the steps of a round, done -/
theorem do_steps {w V : World} {g N k n gs : Nat} {ks : List Nat} {cs : Array Value} {fid : Nat → FuncId} {T : (Nat → Nat) → Nat → (Nat → Nat) → Nat → Nat} {F : Nat → Nat} (hgw : g < w.heap.size) (hc : Cip w g N ks) (he : EncS w gs F V) (hF : ∀ i, F i < 256) (hk : k ≤ 14) (hn : n ≤ 100)
    (hcs : ∀ i, i < n → cs[i]? = some (.func (Fn.func (fid i)) #[] #[])) (hok : ∀ {gb gk o : Nat} {K : Nat → Nat}, (∀ i, K i < 256) → ∀ i, i < n → StepOk gb gk o K (fid i) (T K i)) :
    Calls Try.prog 85 #[.pointer (some ⟨gs, 0, none⟩), rndV g g (513 + k * 16), .slice (some ⟨V.heap.size, 0, none⟩) n n] (V.alloc (.cells cs 160))
      fun e w' => e = .returned (.tuple #[]) ∧ EncS w gs (stepsF (T (Aes.rk ks k)) F n) w' := by
  have hb : Below V.heap.size V (V.alloc (.cells cs 160)) := (Below.refl _ _).alloc (Nat.le_refl _) _
  have he1 := he.next hb
  have hc1 := hc.below he1.below hgw
  have hne : g ≠ gs := by have := he.far; omega
  have hst := he.st.lt
  refine (do_any gs g g (513 + k * 16) V.heap.size n fid (T (Aes.rk ks k)) F (Aes.rk ks k) _ hn hF he1.st hc1.box hne (hc1.key hk) hne (steps_of (heap_alloc_new V _) hcs) (by omega) (hok (fun i => hc.byte _))).mono ?_
  rintro e w' ⟨rfl, hg, hs⟩
  exact ⟨rfl, he1.turn hg hs⟩
end Go.Proofs.Ythjpaligpojlnaa
