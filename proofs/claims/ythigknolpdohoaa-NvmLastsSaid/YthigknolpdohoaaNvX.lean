/-
  A word of a device: fence.
-/
import Derived.Test.YthigknolpdohoaaNvW
import Derived.Test.YthigknolpdohoaaByt
namespace Go.Proofs.Ythigknolpdohoaa
open Go.RowKit Go
set_option linter.unusedVariables false
set_option linter.unusedSimpArgs false
set_option maxRecDepth 100000
set_option maxHeartbeats 400000 in
/-- A word that is not marked stays as it is. -/
theorem fence8_off (b o : Nat) (w : World) (h2 : w.cell? ⟨b, o + 17, none⟩ = some (.bool false)) :
    Calls Try.prog 46 #[.pointer (some ⟨b, o, none⟩)] w fun e w' => e = .returned (.tuple #[]) ∧ w' = w := by
  go_enter Try.func46, Try.ntmps46
  go_wp2
  go_end0
  exact ⟨rfl, rfl⟩
set_option maxHeartbeats 1000000 in
/-- A word that is marked becomes what it is to be. -/
theorem fence8_on (b o : Nat) (x0 x1 x2 x3 x4 x5 x6 x7 : Nat) (w : World) (hm : w.cell? ⟨b, o + 17, none⟩ = some (.bool true)) (h0 : w.cell? ⟨b, o + 8, none⟩ = some (.int .u8 (x0 : Int))) (h1 : w.cell? ⟨b, o + 8 + 1, none⟩ = some (.int .u8 (x1 : Int))) (h2 : w.cell? ⟨b, o + 8 + 2, none⟩ = some (.int .u8 (x2 : Int))) (h3 : w.cell? ⟨b, o + 8 + 3, none⟩ = some (.int .u8 (x3 : Int))) (h4 : w.cell? ⟨b, o + 8 + 4, none⟩ = some (.int .u8 (x4 : Int))) (h5 : w.cell? ⟨b, o + 8 + 5, none⟩ = some (.int .u8 (x5 : Int))) (h6 : w.cell? ⟨b, o + 8 + 6, none⟩ = some (.int .u8 (x6 : Int))) (h7 : w.cell? ⟨b, o + 8 + 7, none⟩ = some (.int .u8 (x7 : Int))) (hth : w.there b o 18) :
    Calls Try.prog 46 #[.pointer (some ⟨b, o, none⟩)] w fun e w' => e = .returned (.tuple #[]) ∧ w' = w.drew.setCells b o #[.int .u8 (x0 : Int), .int .u8 (x1 : Int), .int .u8 (x2 : Int), .int .u8 (x3 : Int), .int .u8 (x4 : Int), .int .u8 (x5 : Int), .int .u8 (x6 : Int), .int .u8 (x7 : Int), .int .u8 (x0 : Int), .int .u8 (x1 : Int), .int .u8 (x2 : Int), .int .u8 (x3 : Int), .int .u8 (x4 : Int), .int .u8 (x5 : Int), .int .u8 (x6 : Int), .int .u8 (x7 : Int), .bool false, .bool false].toList := by
  have HK := Lib.hid (keep8_any b o x0 x1 x2 x3 x4 x5 x6 x7 w h0 h1 h2 h3 h4 h5 h6 h7 hth)
  clear h0 h1 h2 h3 h4 h5 h6 h7 hth
  go_enter Try.func46, Try.ntmps46
  go_wp2_with fail
  refine HK.out.mono ?_
  rintro e w1 ⟨rfl, rfl⟩
  go_wp2
  go_end0
  exact ⟨rfl, rfl⟩
theorem cut8 (b o k : Nat) (hk : k < 8) (w : World) : (Instr.sliceAt 72 (.pointer (some ⟨b, o, none⟩)) (some (.int .i64 (k : Int))) none none).run Try.prog w = .ok (.slice (some ⟨b, o + k, none⟩) (8 - k) (8 - k)) w :=
  run_cut_arr _ _ 8 Try.underlying72 size_u8 b o k hk w
/-- A word that is stored into: its first bytes stay, those behind turn, it is pending and not marked. -/
def stored (o f : Nat) (cur : List Value) (q : List Nat) : List Value := splice ((cur.set (o + 16) (.bool true)).set (o + 17) (.bool false)) (o + 8 + f) (bvals q)
theorem blk_set2 {w : World} {g : Nat} {cur : List Value} {t : TypeId} (h : w.heap[g]? = some (.cells cur.toArray t (0, 0))) (i : Nat) (u : Value) : (w.setCell ⟨g, i, none⟩ u).heap[g]? = some (.cells (cur.set i u).toArray t (0, 0)) := by
  have := blk_set h i u
  simpa using this
/-- a copy into eight bytes of a known block, from f on -/
theorem wp_store_copy {ops : Array Oper} {rest : List Oper} {o : Oper} {x : Act} {Q : Exit → Act → World → Prop} (W : World) (hgd : o.guard = none) (d s : Operand)
    (ho : o.op = .call { callee := .builtin .copy, args := #[d, s], argTypes := #[28, 28] })
    (g b f : Nat) (hf : f < 8) (cur : List Value) (t : TypeId) (hg : W.heap[g]? = some (.cells cur.toArray t (0, 0))) (hb : b + 8 ≤ cur.length) (B : Nat) (A : Option Addr) (n c : Nat) (l : List Nat) (hp : BS W B A n c l)
    (hd : x.eval d = .slice (some ⟨g, b + f, none⟩) (8 - f) (8 - f)) (hs : x.eval s = .slice A n c)
    (h : ∀ w', w'.heap[g]? = some (.cells (splice cur (b + f) (bvals (l.take (min n (8 - f))))).toArray t (0, 0)) → W.grownBy w' (some g) → wpList Try.prog ops Q rest (x.put o.dst (.int .i64 ((min n (8 - f) : Nat) : Int))) w') :
    wpList Try.prog ops Q (o :: rest) x W := by
  have hpl := hp.len
  have hl : (bvals (l.take (min n (8 - f)))).length = min n (8 - f) := by rw [bvals_len, List.length_take]; omega
  refine wp_copy_only hgd d s 28 28 ho 5 Try.underlying28 size_u8 _ A (8 - f) (8 - f) n c hd hs g (b + f) cur t hg
    (bvals (l.take (min n (8 - f)))) hl (fun h0 => ⟨rfl, bs_reads hp (by omega) (by rw [hl] at h0; exact h0)⟩) (by rw [hl]; omega) (bvals_one _) fun w' hw hg => ?_
  rw [hl]
  exact h w' hw.out hg
set_option maxHeartbeats 1000000 in
theorem store8_any (g o f : Nat) (hf : f < 8) (cur : List Value) (t : TypeId) (A : Option Addr) (n c : Nat) (l : List Nat) (w : World) (hg : w.heap[g]? = some (.cells cur.toArray t (0, 0))) (hfit : o + 18 ≤ cur.length) (hbs : BS w w.heap.size A n c l) (ho : Off n A g) (k6 : ∀ v, w.frozen? ⟨g, v, none⟩ = false) (v6 v7 : Value) (c6 : w.cell? ⟨g, o + 16, none⟩ = some v6) (c7 : w.cell? ⟨g, o + 17, none⟩ = some v7) :
    Calls Try.prog 40 #[.pointer (some ⟨g, o, none⟩), .int .i64 (f : Int), .slice A n c] w fun e w' => e = .returned (.int .i64 ((min n (8 - f) : Nat) : Int)) ∧ w.grownBy w' (some g) ∧ w'.heap[g]? = some (.cells (stored o f cur (l.take (min n (8 - f)))).toArray t (0, 0)) := by
  have hsl := cut8 g (o + 8) f hf
  have hg1 : w.grownBy (w.setCell ⟨g, o + 16, none⟩ (.bool true)) (some g) := only_set (p := ⟨g, o + 16, none⟩) (World.grownBy.refl w _) (.inl rfl) _
  have hg2 : w.grownBy ((w.setCell ⟨g, o + 16, none⟩ (.bool true)).setCell ⟨g, o + 17, none⟩ (.bool false)) (some g) := only_set (p := ⟨g, o + 17, none⟩) hg1 (.inl rfl) _
  have HG := Lib.hid hg2
  have HB := Lib.hid (hbs.only ho hg2)
  have HC := Lib.hid (blk_set2 (blk_set2 hg (o + 16) (.bool true)) (o + 17) (.bool false))
  have hpl := hbs.len
  have hl : (bvals (l.take (min n (8 - f)))).length = min n (8 - f) := by rw [bvals_len, List.length_take]; omega
  have HL := Lib.hid hl
  have HF := Lib.hid hfit
  clear hl hpl
  have q6 := k6 (o + 16)
  have q7 := k6 (o + 17)
  clear hg1 hg2 hbs ho hg k6 hfit
  go_enter Try.func40, Try.ntmps40
  go_wp2_with (with_reducible refine wp_store_copy _ rfl (.tmp 17) (.tmp 18) rfl g (o + 8) f hf _ t HC.out (by have := HF.out; simp only [List.length_set]; omega) _ A n c l HB.out rfl rfl ?_; intro w2 hw2 hg2)
  have HE := Lib.hid hw2
  have HG2 := Lib.hid (only_trans HG.out hg2)
  clear hw2 hg2
  go_wp2
  go_ret
  exact ⟨rfl, HG2.out, HE.out⟩
/-- A word that is tampered with: its bytes turn, as they last and as they are read. -/
def tampered (o f : Nat) (cur : List Value) (q : List Nat) : List Value := splice (splice cur (o + f) (bvals q)) (o + 8 + f) (bvals q)
theorem splice_len {α : Type} (L cs : List α) (off : Nat) (h : off + cs.length ≤ L.length) : (splice L off cs).length = L.length := by
  unfold splice; simp only [List.length_append, List.length_take, List.length_drop]; omega
set_option maxHeartbeats 1000000 in
theorem tamper8_any (g o f : Nat) (hf : f < 8) (cur : List Value) (t : TypeId) (A : Option Addr) (n c : Nat) (l : List Nat) (w : World) (hg : w.heap[g]? = some (.cells cur.toArray t (0, 0))) (hfit : o + 18 ≤ cur.length) (hbs : BS w w.heap.size A n c l) (ho : Off n A g) :
    Calls Try.prog 60 #[.pointer (some ⟨g, o, none⟩), .int .i64 (f : Int), .slice A n c] w fun e w' => e = .returned (.int .i64 ((min n (8 - f) : Nat) : Int)) ∧ w.grownBy w' (some g) ∧ w'.heap[g]? = some (.cells (tampered o f cur (l.take (min n (8 - f)))).toArray t (0, 0)) := by
  have hsl := cut8 g (o + 8) f hf
  have hsl0 := cut8 g o f hf
  have HB := Lib.hid hbs
  have HC := Lib.hid hg
  have HO := Lib.hid ho
  have HF := Lib.hid hfit
  have hpl := hbs.len
  have hl : (bvals (l.take (min n (8 - f)))).length = min n (8 - f) := by rw [bvals_len, List.length_take]; omega
  have HSL := Lib.hid (splice_len cur (bvals (l.take (min n (8 - f)))) (o + f) (by rw [hl]; omega))
  clear hl hpl hbs ho hg hfit
  go_enter Try.func60, Try.ntmps60
  go_wp2_with (first
    | (with_reducible refine wp_store_copy _ rfl (.tmp 11) (.tmp 12) rfl g o f hf _ t HC.out (by have := HF.out; omega) _ A n c l HB.out rfl rfl ?_
       intro w2 hw2 hg2
       have HC2 := Lib.hid hw2
       have HB2 := Lib.hid (HB.out.only HO.out hg2)
       have HG2 := Lib.hid hg2
       clear hw2 hg2)
    | (with_reducible refine wp_store_copy _ rfl (.tmp 18) (.tmp 19) rfl g (o + 8) f hf _ t HC2.out (by have := HF.out; have := HSL.out; omega) _ A n c l HB2.out rfl rfl ?_
       intro w3 hw3 hg3))
  have HE := Lib.hid hw3
  have HG3 := Lib.hid (only_trans HG2.out hg3)
  clear hw3 hg3
  go_wp2
  go_ret
  exact ⟨rfl, HG3.out, HE.out⟩
end Go.Proofs.Ythigknolpdohoaa
