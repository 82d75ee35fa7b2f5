/-
  bytes.Join of this program is the library's.
-/
import Derived.Test.YtogipflmnnmhiaaProg
import Derived.Shelf.Bytes.SlJoin
namespace Go.Proofs.Ytogipflmnnmhiaa
open Go Go.Shelf
def rhoJ : Ren := ⟨fun n => if n = 14 then 69 else if n = 15 then 82 else 0, fun n => if n = 3 then 3 else if n = 4 then 4 else if n = 9 then 9 else if n = 20 then 20 else if n = 22 then 46 else if n = 26 then 71 else if n = 5 then 5 else 0, fun x => x⟩
theorem laysJ : SlLaysJ.n14 Try.prog rhoJ where
  mixed := by kernel_rfl
  f14 := by kernel_rfl
  f15 := by kernel_rfl
  t0 := Try.underlying0
  a0 := fun _ => by kernel_rfl
  z0 := fun _ => by kernel_rfl
  v0 := fun _ => by kernel_rfl
  t3 := Try.underlying3
  a3 := fun _ => by kernel_rfl
  z3 := fun _ => by kernel_rfl
  v3 := fun _ => by kernel_rfl
  t4 := Try.underlying4
  a4 := fun _ => by kernel_rfl
  z4 := fun _ => by kernel_rfl
  v4 := fun _ => by kernel_rfl
  t9 := Try.underlying9
  a9 := fun _ => by kernel_rfl
  z9 := fun _ => by kernel_rfl
  v9 := fun _ => by kernel_rfl
  t20 := Try.underlying20
  a20 := fun _ => by kernel_rfl
  z20 := fun _ => by kernel_rfl
  v20 := fun _ => by kernel_rfl
  t22 := Try.underlying46
  a22 := fun _ => by kernel_rfl
  z22 := fun _ => by kernel_rfl
  v22 := fun _ => by kernel_rfl
  t26 := Try.underlying71
  a26 := fun _ => by kernel_rfl
  z26 := fun _ => by kernel_rfl
  v26 := fun _ => by kernel_rfl
  t5 := Try.underlying5
  z5 := fun _ => by kernel_rfl
  i5 := by kernel_rfl
end Go.Proofs.Ytogipflmnnmhiaa
