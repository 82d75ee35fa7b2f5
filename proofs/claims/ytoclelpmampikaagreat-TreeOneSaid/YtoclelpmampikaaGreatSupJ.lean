/-
  bytes.Join of this program is the library's.
-/
import Derived.Test.YtoclelpmampikaaGreatProg
import Derived.Shelf.Bytes.SlJoin
namespace Go.Proofs.YtoclelpmampikaaGreat
open Go Go.Shelf
def rhoJ : Ren := ⟨fun n => if n = 14 then 61 else if n = 15 then 76 else 0, fun n => if n = 3 then 3 else if n = 4 then 4 else if n = 9 then 9 else if n = 20 then 20 else if n = 22 then 89 else if n = 26 then 75 else if n = 5 then 5 else 0, fun x => x⟩
theorem laysJ : SlLaysJ.n14 Tryz.prog rhoJ where
  mixed := by kernel_rfl
  f14 := by kernel_rfl
  f15 := by kernel_rfl
  t0 := Tryz.underlying0
  a0 := fun _ => by kernel_rfl
  z0 := fun _ => by kernel_rfl
  v0 := fun _ => by kernel_rfl
  t3 := Tryz.underlying3
  a3 := fun _ => by kernel_rfl
  z3 := fun _ => by kernel_rfl
  v3 := fun _ => by kernel_rfl
  t4 := Tryz.underlying4
  a4 := fun _ => by kernel_rfl
  z4 := fun _ => by kernel_rfl
  v4 := fun _ => by kernel_rfl
  t9 := Tryz.underlying9
  a9 := fun _ => by kernel_rfl
  z9 := fun _ => by kernel_rfl
  v9 := fun _ => by kernel_rfl
  t20 := Tryz.underlying20
  a20 := fun _ => by kernel_rfl
  z20 := fun _ => by kernel_rfl
  v20 := fun _ => by kernel_rfl
  t22 := Tryz.underlying89
  a22 := fun _ => by kernel_rfl
  z22 := fun _ => by kernel_rfl
  v22 := fun _ => by kernel_rfl
  t26 := Tryz.underlying75
  a26 := fun _ => by kernel_rfl
  z26 := fun _ => by kernel_rfl
  v26 := fun _ => by kernel_rfl
  t5 := Tryz.underlying5
  z5 := fun _ => by kernel_rfl
  i5 := by kernel_rfl
end Go.Proofs.YtoclelpmampikaaGreat
