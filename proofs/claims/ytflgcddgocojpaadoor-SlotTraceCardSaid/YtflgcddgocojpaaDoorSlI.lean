/-
  Layer 18: bytes that are cleared; Free.
-/
import Derived.Test.YtflgcddgocojpaaDoorSlH
import Derived.Laws.CopyRow
namespace Go.Proofs.YtflgcddgocojpaaDoor
open Go.RowKit Go
set_option linter.unusedVariables false
set_option linter.unusedSimpArgs false
set_option maxHeartbeats 1000000

theorem run_clear (h q n c : Nat) (cur : List Value) (w : World) (hg : w.heap[h]? = some (.cells cur.toArray 5 (0, 0))) (hfit : q + n ≤ cur.length) (hn : 0 < n) :
    ∃ w', (∀ ty, (Builtin.clear_ #[63] ty #[.slice (some ⟨h, q, none⟩) n c]).run Tryd.prog w = .ok (.tuple #[]) w') ∧ w'.heap[h]? = some (.cells (splice cur q (bvals (List.replicate n 0))).toArray 5 (0, 0)) ∧ w.grownBy w' (some h) := by
  have hz : ∀ w, (zeroValue 5).run Tryd.prog w = .ok (.int .u8 0) w := fun _ => by kernel_rfl
  have hu : ∀ w, (underlying 63).run Tryd.prog w = .ok (.slice 5) w := fun w => run_underlying Tryd.underlying63 w
  have hzc : (Builtin.zeroCells (Value.int .u8 0).cells n).toList = bvals (List.replicate n 0) := by
    refine List.ext_getElem (by simp [Builtin.zeroCells, bvals, Value.cells]) fun i h1 h2 => ?_
    simp [Builtin.zeroCells, bvals, Value.cells, Nat.mod_one]
  have hs := run_storeCells_at (P := Tryd.prog) h q 5 (bvals (List.replicate n 0)) 0 cur.toArray w hg (by simp [bvals]; omega) (bvals_one _)
  refine ⟨w.setRow h (splice cur q (bvals (List.replicate n 0))).toArray, fun ty => ?_, setRow_heap w h _ _ _ _ hg, only_setRow w h _⟩
  have hs' : (storeCells ⟨h, q, none⟩ (Builtin.zeroCells (Value.int .u8 0).cells n).toList 0).run Tryd.prog w = .ok () (w.setRow h (splice cur q (bvals (List.replicate n 0))).toArray) := by
    rw [hzc, hs]; simp [splice]
  rw [show (Value.int .u8 0).cells = #[Value.int .u8 0] from rfl] at hs'
  obtain ⟨m, rfl⟩ : ∃ m, n = m + 1 := ⟨n - 1, by omega⟩
  simp [Builtin.clear_, hu, hz, go_sem, hs']
theorem clear_P (h q n c B cc : Nat) (t : List Nat) (w : World) (hp : PgO w B h cc t) (hq : q + n ≤ 256) (hn : 0 < n) :
    ∃ w', (∀ ty, (Builtin.clear_ #[63] ty #[.slice (some ⟨h, q, none⟩) n c]).run Tryd.prog w = .ok (.tuple #[]) w') ∧ PgO w' B h cc (splL t q (List.replicate n 0)) ∧ w.grownBy w' (some h) := by
  obtain ⟨cur, b1, b2, b3⟩ := hp.blk
  have b1' : w.heap[h]? = some (.cells cur.toList.toArray 5 (0, 0)) := by rw [Array.toArray_toList]; exact b1
  have hcl : cur.toList.length = cc := by rw [Array.length_toList]; exact b2
  have hc1 := hp.c1
  obtain ⟨w', h1, h2, h3⟩ := run_clear h q n c cur.toList w b1' (by omega) hn
  refine ⟨w', h1, PgO.spl hp b1' h2 (by rw [List.length_replicate]; exact hq) (fun i => ?_), h3⟩
  by_cases hi : i < n
  · simp [List.getD, List.getElem?_replicate, hi]
  · rw [out_at _ (by simp; omega)]; omega
/-- below w nothing has turned, though block h, which is of later, has -/
theorem below_own {w w2 w' : World} {h : Nat} (hb : Below w.heap.size w w2) (hh : w.heap.size ≤ h) (hg : w2.grownBy w' (some h)) : Below w.heap.size w w' :=
  hb.trans ⟨hg.os, hg.tape, hg.output, hg.size, fun i hi => hg.block i (Nat.lt_of_lt_of_le hi hb.size) (fun e => by injection e with e; omega)⟩
def FreeTo (w : World) (z S : Nat) (t : List Nat) (i : Int) (e : Ending) (w' : World) : Prop :=
  (mayP z S t = false ∧ e = .returned (.tuple #[.slice none 0 0, .int .i64 4]) ∧ Below w.heap.size w w') ∨
  (mayP z S t = true ∧ ¬ Has z S t i ∧ e = .returned (.tuple #[.slice none 0 0, .int .i64 6]) ∧ Below w.heap.size w w') ∨
  (mayP z S t = true ∧ Has z S t i ∧ ∃ h cc, e = .returned (.tuple #[.slice (some ⟨h, 0, none⟩) 256 cc, .int .i64 0]) ∧ PgO w' w.heap.size h cc (splL t (i.toNat * z) (List.replicate z 0)) ∧ Below w.heap.size w w')
theorem free18_any (k b q c : Nat) (i : Int) (t : List Nat) (w : World) (hS : SZ w) (hk : k < 8) (hs : BS w w.heap.size (some ⟨b, q, none⟩) 256 c t) :
    Calls Tryd.prog 13 #[.slice (some ⟨b, q, none⟩) 256 c, .int .i64 (k : Int), .int .i64 i] w (FreeTo w (clZ k) (clS k) t i) := by
  obtain ⟨z1, z2, z3, z4, z5, -⟩ := cl_fits k hk
  have HO := Lib.hid (find_any k b q c i t w hS hk hs)
  clear hs hS
  unfold FindTo at HO
  generalize clZ k = z at *
  generalize clS k = S at *
  go_enter Tryd.func13, Tryd.ntmps13
  go_wp2_with fail
  refine HO.out.mono ?_
  clear HO
  rintro e w1 (⟨hm, rfl, hb⟩ | ⟨hm, hh, rfl, hb⟩ | ⟨hm, hh, h, cc, rfl, hp, hb⟩)
  · have HR : Hid (FreeTo w z S t i (.returned (.tuple #[.slice none 0 0, .int .i64 4])) w1) := Lib.hid (.inl ⟨hm, rfl, hb⟩)
    clear hm hb
    go_wp2_with fail
    go_ret2
    exact HR.out
  · have HR : Hid (FreeTo w z S t i (.returned (.tuple #[.slice none 0 0, .int .i64 6])) w1) := Lib.hid (.inr (.inl ⟨hm, hh, rfl, hb⟩))
    clear hm hb hh
    go_wp2_with fail
    go_ret2
    exact HR.out
  · obtain ⟨h0, h1, h2⟩ := id hh
    have hj : i.toNat < S := by omega
    have hle := slot_le z3 hj
    obtain ⟨w2, hcl, hp2, hg2⟩ := clear_P h (i.toNat * z) z z _ cc t w1 hp hle (by omega)
    have HR : Hid (FreeTo w z S t i (.returned (.tuple #[.slice (some ⟨h, 0, none⟩) 256 cc, .int .i64 0])) w2) := Lib.hid (.inr (.inr ⟨hm, hh, h, cc, rfl, hp2, below_own hb hp.hB hg2⟩))
    clear hm hb hh h0 h1 h2 hj hp hp2 hg2 hle
    generalize i.toNat * z = m at *
    go_wp2
    go_ret2
    exact HR.out
end Go.Proofs.YtflgcddgocojpaaDoor
