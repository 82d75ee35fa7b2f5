/-
  The example of chapter 5.
-/
import Derived.Test.YthjpaligpojlnaaAesQ
import Derived.Test.YthjpaligpojlnaaAesI
namespace Go.Proofs.Ythjpaligpojlnaa
open Go.RowKit Go
set_option linter.unusedVariables false
attribute [local irreducible] Gf.inv Gf.tm Gf.pw Gf.spread Gf.sub Gf.boxAt Gf.bk Gf.rm Gf.bit
def k0 : List Nat := List.range 16
def x0 : List Nat := [0x69, 0xC4, 0xE0, 0xD8, 0x6A, 0x7B, 0x04, 0x30, 0xD8, 0xCD, 0xB7, 0x80, 0x70, 0xB4, 0xC5, 0x5A]
theorem k0_is : k0 = Aes.key0 := by decide
theorem k0_byte (i : Nat) : k0.getD i 0 < 256 := by
  unfold k0
  rw [List.getD_eq_getElem?_getD]
  by_cases h : i < 16
  · rw [List.getElem?_range h]; simp; omega
  · rw [List.getElem?_eq_none (by simp; omega)]; simp
theorem p0_ok : Aes.Ok Aes.plain0 := ⟨rfl, fun i => by
  by_cases h : i < 16
  · have : ∀ j : Fin 16, Aes.plain0.getD j 0 < 256 := by decide
    exact this ⟨i, h⟩
  · rw [List.getD_eq_getElem?_getD, List.getElem?_eq_none (by show 16 ≤ i; omega)]; simp⟩
theorem aw_enc : Aes.enc Gf.sub (Aes.sch Gf.sub k0 4 44) 10 Aes.plain0 = x0 := by
  rw [Aes.enc_congr (g := Aes.boxT) (fun c h => Aes.sub_box h) (fun c h => Gf.sub_lt h) (fun i => Aes.sch_byte (fun c h => Gf.sub_lt h) k0_byte _ _) p0_ok]
  rw [Aes.sch_congr (g := Aes.boxT) (fun c h => Aes.sub_box h) (fun c h => Gf.sub_lt h) k0_byte, k0_is]
  exact Aes.example_T
/-- one byte is appended to a slice of any type of bytes -/
theorem wp_app_t (ty : TypeId) (hty : Try.prog.underlying ty = some (.slice 5)) {ops : Array Oper} {rest : List Oper} {o : Oper} {a : Act} {Q : Exit → Act → World → Prop} (W : World) (hgd : o.guard = none) (s x : Operand)
    (ho : o.op = .call { callee := .builtin .append, args := #[s, x], argTypes := #[ty, ty] })
    (B : Nat) (v : Value) (l : List Nat) (z : Int) (b : Nat) (hs : a.eval s = v) (hown : Own W B v l)
    (hx : a.eval x = .slice (some ⟨W.heap.size, 0, none⟩) 1 1) (hz : z = (b : Int)) (hn : l.length < 1000000000) (hB : B ≤ W.heap.size)
    (h : ∀ v' w', Own w' B v' (l ++ [b]) → Below B W w' → wpList Try.prog ops Q rest (a.put o.dst v') w') :
    wpList Try.prog ops Q (o :: rest) a (W.alloc (.cells #[.int .u8 z] 5)) := by
  obtain ⟨i0, hi, hz0, hz1, hz2⟩ := info_parts info_u8
  subst hz
  refine wpList_append_own _ hgd s x ty ho B 5 i0 (.int .u8 0) 1 1 hty hi hz0 hz1 hz2 rfl (by decide) v l.length (bvals l) hs (World.ownsRow.alloc hown _) ⟨W.heap.size, 0, none⟩ 1 1
    [.int .u8 (b : Int)] hx rfl ?_ ?_ (by unfold maxLen; omega) (by omega) (by simp; omega) ?_
  · intro j u hj
    match j, hj with
    | 0, hj => simp at hj; subst hj; simp [Addr.add]
  · intro u hu; simp at hu; subst hu; rfl
  · intro v' w1 hown' hg _
    refine h v' w1 ?_ ?_
    · have e : bvals (l ++ [b]) = bvals l ++ [.int .u8 (b : Int)] := by simp [bvals]
      unfold Own
      rw [e, List.length_append]
      exact hown'
    · exact ((Below.refl B W).alloc hB _).grown hg (by simp; omega) (fun k hk => (World.ownsRow.lt hown k hk).1)
def AwRel (w : World) (v2 v : Value) (wr : World) : Prop :=
  ∃ k : Nat, v = .int .i64 (k : Int) ∧ k ≤ 16 ∧ Below w.heap.size w wr ∧ w.heap.size + 1 ≤ wr.heap.size ∧ Row wr w.heap.size 22 (fun i => u8 (if i < k then 17 * i else 0)) 16 ∧ Own wr (w.heap.size + 1) v2 (List.range k)
end Go.Proofs.Ythjpaligpojlnaa
