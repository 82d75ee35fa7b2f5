/-
  What of the world has turned: only blocks of S. No program is named here.
-/
import Derived.Test.YthigknolpdohoaaHeldF
import Derived.Test.YthigknolpdohoaaCel
import Derived.WalkKit
import Derived.Below
namespace Go.Proofs.Ythigknolpdohoaa
open Go.RowKit Go
set_option linter.unusedVariables false
set_option linter.unusedSimpArgs false
/-- of what was there only blocks of S have turned -/
structure Turns (S : Nat → Prop) (W W' : World) : Prop where
  os : W'.os = W.os
  tape : W'.tape = W.tape
  output : W'.output = W.output
  size : W.heap.size ≤ W'.heap.size
  block : ∀ k, k < W.heap.size → ¬ S k → W'.heap[k]? = W.heap[k]?
section
variable {S S' : Nat → Prop} {W W1 W2 : World}
theorem Turns.trans (h : Turns S W W1) (k : Turns S' W1 W2) (hs : ∀ j, j < W.heap.size → S' j → S j) : Turns S W W2 :=
  ⟨k.os.trans h.os, k.tape.trans h.tape, k.output.trans h.output, Nat.le_trans h.size k.size, fun j hj hn => (k.block j (Nat.lt_of_lt_of_le hj h.size) (fun q => hn (hs j hj q))).trans (h.block j hj hn)⟩
theorem Turns.of_below (h : Below W.heap.size W W1) : Turns S W W1 := ⟨h.os, h.tape, h.output, h.size, fun j hj _ => h.block j hj⟩
theorem Turns.of_grown {row : Option Nat} (h : W.grownBy W1 row) (hr : ∀ j, row = some j → S j) : Turns S W W1 := ⟨h.os, h.tape, h.output, h.size, fun j hj hn => h.block j hj (fun e => hn (hr j e.symm))⟩
theorem Turns.set (p : Addr) (u : Value) (hp : S p.block) : Turns S W (W.setCell p u) := ⟨rfl, rfl, rfl, by simp [World.setCell], fun j hj hn => Below.heap_setCell _ _ _ _ (fun e => hn (by rw [e]; exact hp))⟩
theorem Turns.below {B : Nat} (h : Turns S W W1) (hB : B ≤ W.heap.size) (hs : ∀ j, S j → B ≤ j) : Below B W W1 := ⟨h.os, h.tape, h.output, h.size, fun j hj => h.block j (by omega) (fun q => by have := hs j q; omega)⟩
theorem Turns.mono (h : Turns S' W W1) (hs : ∀ j, j < W.heap.size → S' j → S j) : Turns S W W1 := ⟨h.os, h.tape, h.output, h.size, fun j hj hn => h.block j hj (fun q => hn (hs j hj q))⟩
end
theorem os_setCells (b : Nat) : ∀ (vs : List Value) (o : Nat) (w : World), (w.setCells b o vs).os = w.os
  | [], _, _ => rfl
  | v :: r, o, w => by rw [World.setCells, os_setCells b r]; rfl
theorem tape_setCells (b : Nat) : ∀ (vs : List Value) (o : Nat) (w : World), (w.setCells b o vs).tape = w.tape
  | [], _, _ => rfl
  | v :: r, o, w => by rw [World.setCells, tape_setCells b r]; rfl
theorem output_setCells (b : Nat) : ∀ (vs : List Value) (o : Nat) (w : World), (w.setCells b o vs).output = w.output
  | [], _, _ => rfl
  | v :: r, o, w => by rw [World.setCells, output_setCells b r]; rfl
end Go.Proofs.Ythigknolpdohoaa
