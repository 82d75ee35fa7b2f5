/-
  A region that draws its order, whose operations yield one value in every world of a class. No program is named here.
-/
import Derived.BigQuiet
import Derived.Deep.MidRow
import Derived.Below
import Derived.Test.YtkgmggjlnibgmaaVal
namespace Go.Proofs.Ytkgmggjlnibgmaa
open Go Go.RowKit
set_option linter.unusedVariables false
theorem wp_region_class {P : Program} {id : Nat} {Q : Exit → Act → World → Prop} {a : Act} {w : World} {l : List Oper} (C : World → Prop) (hm : P.follows .mixedOrders = true) (hB : Region.lexB .any l.toArray = true) (hC : C w.drew)
    (h : wpQuiet P l.toArray C (fun a' => ∀ w', C w' → Q .normal a' w') l a) : (Code.region id l.toArray true).wp P Q a w :=
  wp_region_quiet (C := C) hm hB hC (by simpa using h)
theorem quiet_load {P : Program} {C : World → Prop} {o : Oper} {a : Act} {K : Act → Prop} (ty : TypeId) (x : Operand) (ho : o.op = .load ty x) (b off : Nat) (hx : a.eval x = .pointer (some ⟨b, off, none⟩)) (cs : List Value) (d : TypeDesc)
    (hS : ∀ w, C w → w.rangeAt b off cs) (hu : P.underlying ty = some d) (hd : d.isRow = true) (hi : (P.info? ty).map (·.size) = some cs.length) (hk : K (a.put o.dst (.agg cs.toArray))) : o.quiet P a C K :=
  ⟨_, fun w hw => by
    unfold Oper.quietAt execOp
    simp only [ho, hx, Instr.loadAt, Instr.sureAddr, Sem.run_bind, Sem.run_pure, Result.andThen_ok, run_loadVar_mid w b off ty cs d (hS w hw) hu hd hi]
    exact ⟨rfl, rfl⟩, hk⟩
/-- what lies below the heap's end of W lies there still -/
def After (W w : World) : Prop := Below W.heap.size W w
theorem After.next {W w w' : World} (h : After W w) (hb : Below w.heap.size w w') : After W w' := Below.trans h (hb.mono h.size)
theorem After.refl (W : World) : After W W := Below.refl _ _
theorem After.drew (W : World) : After W W.drew := (Below.refl _ _).drew
theorem After.row {W w : World} {g : Nat} {t : TypeId} {f : Nat → Value} {n : Nat} (h : After W w) (hr : Row W g t f n) : Row w g t f n := Row.below hr h hr.lt
theorem row_range {w : World} {g : Nat} {t : TypeId} {f : Nat → Value} {n : Nat} (h : Row w g t f n) {cs : List Value} (hc : cs.toArray = rowV f n) : w.rangeAt g 0 cs := fun j v hv => by
  rw [Nat.zero_add]
  have h1 := blk_cell h j
  rw [h1, ← hc]
  simpa using hv
theorem calls_after {P : Program} {f : FuncId} {args : Array Value} {W w : World} {v : Value} (hw : After W w) (h : Calls P f args w fun e w' => e = .returned v ∧ Below w.heap.size w w') : Calls P f args w fun e w' => e = .returned v ∧ After W w' :=
  h.mono fun _ _ ⟨he, hb⟩ => ⟨he, hw.next hb⟩
end Go.Proofs.Ytkgmggjlnibgmaa
