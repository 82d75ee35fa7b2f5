/-
  A register: At, New, Read.
-/
import Derived.Test.YtbanknppdgiflaaNvC
import Derived.Great.Ranges
import Derived.Laws.Tables
namespace Go.Proofs.Ytbanknppdgiflaa
open Go.RowKit Go
set_option linter.unusedVariables false
set_option linter.unusedSimpArgs false
theorem wp_build_eq9 {P : Program} {ops : Array Oper} {rest : List Oper} {o : Oper} {a : Act} {w : World} {Q : Exit → Act → World → Prop} (hg : o.guard = none) (t : TypeId) (parts : Array (Nat × Operand)) (ho : o.op = .build t parts)
    (cs : Array Value) (hf : P.built t (parts.map fun (i, x) => (i, a.eval x)).toList = some cs) (h : wpList P ops Q rest (a.put o.dst (.agg cs)) w) : wpList P ops Q (o :: rest) a w := by
  refine wpList_build hg t parts ho (by rw [hf]; rfl) ?_
  rw [hf]
  exact h
/-- a count and a root -/
def regF (c : Nat) (l : List Nat) (i : Nat) : Value := if i = 0 then .int .u64 (c : Int) else .int .u8 ((l.getD (i - 1) 0 : Nat) : Int)
/-- a register's cells: what it holds, and two functions -/
def trF (f : Nat → Value) (a b : Value) (i : Nat) : Value := if i < 33 then f i else if i = 33 then a else b
theorem built_trust (f : Nat → Value) (p p' : Fn) (q q' r r' : Array Value) : Try.prog.built 60 [(0, .agg (rowV f 33)), (1, .func p q r), (2, .func p' q' r')] = some (rowV (trF f (.func p q r) (.func p' q' r')) 35) := by kernel_rfl
theorem built_reg0 : Try.prog.built 26 [] = some (rowV (regF 0 []) 33) := by kernel_rfl
theorem built_reg1 : Try.prog.built 26 [(0, .int .u64 1)] = some (rowV (regF 1 []) 33) := by kernel_rfl
theorem info_reg (f : Nat → Value) : (Try.prog.info? 26).map (·.size) = some (rowV f 33).size := by rw [rowV_size]; kernel_rfl
theorem zero_reg (w : World) : (zeroValue 26).run Try.prog w = .ok (.agg (rowV (regF 0 []) 33)) w := by kernel_rfl
end Go.Proofs.Ytbanknppdgiflaa
