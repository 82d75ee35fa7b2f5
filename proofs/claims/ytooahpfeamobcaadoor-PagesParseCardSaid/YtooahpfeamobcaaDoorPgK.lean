/-
  Take, Give, Turn, of the program and of the document.
-/
import Derived.Test.YtooahpfeamobcaaDoorPgJ
namespace Go.Proofs.YtooahpfeamobcaaDoor
open Go.RowKit Go
set_option linter.unusedVariables false
set_option linter.unusedSimpArgs false
set_option maxRecDepth 100000
theorem takeC_any (b0 b1 b2 B : Nat) (v : Value) (l : List Pg) (a s sn : Int) (W : World) (c0 : W.cell? ⟨b0, 0, none⟩ = some (.int .i64 a)) (c1 : W.cell? ⟨b1, 0, none⟩ = some (.int .i64 s)) (c2 : W.cell? ⟨b2, 0, none⟩ = some (.int .u64 sn))
    (h : OwnP W B OT v l) (hS : SZ W) (hm : mayL l = true) (hB : B ≤ W.heap.size) (hwf : a ≤ 9223372036854775807) :
    Calls Tryd.prog 33 #[v, .pointer (some ⟨b0, 0, none⟩), .pointer (some ⟨b1, 0, none⟩), .pointer (some ⟨b2, 0, none⟩)] W (ChgTo W B v (takeF l a s sn)) := by
  have HC := Lib.hid (take_any' B v l a s sn W h hS hm hB hwf)
  clear h hS hm hB hwf
  generalize takeF l a s sn = R at *
  go_enter Tryd.func33, Tryd.ntmps33
  go_wp2_with fail
  refine HC.out.mono ?_
  rintro e w' ⟨rfl, h1, h2⟩
  have HE : Hid (ChgTo W B v R (.returned (.int .i64 (R.1 : Int))) w') := Lib.hid ⟨rfl, h1, h2⟩
  clear h1 h2
  go_wp2
  go_ret
  exact HE.out
theorem AnsTo.from {w w1 w' : World} {R : Nat × List Pg} {e : Ending} (hb : Below w.heap.size w w1) (h : AnsTo w1 R e w') : AnsTo w R e w' := by
  obtain ⟨A, c, h1, h2, h3⟩ := h
  exact ⟨A, c, h1, h2, hb.trans (h3.mono hb.size)⟩
theorem box1 {w : World} {o : Obj} : (w.alloc o).heap.size = w.heap.size + 1 := by simp
theorem cell_keep {W W' : World} {B : Nat} {p : Addr} {v : Value} (hb : Below B W W') (hp : p.block < B) (h : W.cell? p = some v) : W'.cell? p = some v := (hb.cell hp).trans h
set_option maxHeartbeats 2000000 in
theorem ptake_any (A : Option Addr) (n c : Nat) (l : List Pg) (a s sn : Int) (w : World) (h : PS w A n c l) (hS : SZ w) (hn : n < 1000) (hwf : a ≤ 9223372036854775807) :
    Calls Tryd.prog 20 #[.slice A n c, .int .i64 a, .int .i64 s, .int .u64 sn] w (AnsTo w (takeF l a s sn)) := by
  obtain ⟨V, hV⟩ : ∃ V, V = ((w.alloc (.cells #[.int .i64 a] 3)).alloc (.cells #[.int .i64 s] 3)).alloc (.cells #[.int .u64 sn] 25) := ⟨_, rfl⟩
  have hsz : V.heap.size = w.heap.size + 3 := by rw [hV, box1, box1, box1]
  have hbV : Below w.heap.size w V := by
    rw [hV]
    exact (bel_alloc _ _).trans (((bel_alloc _ _).trans ((bel_alloc _ _).mono (by simp))).mono (by simp))
  have c0 : V.cell? ⟨w.heap.size, 0, none⟩ = some (.int .i64 a) := by
    rw [hV]; exact blk_cell (blk_alloc (blk_alloc (heap_alloc_new w _) _) _) 0
  have c1 : V.cell? ⟨w.heap.size + 1, 0, none⟩ = some (.int .i64 s) := by
    have := blk_cell (blk_alloc (heap_alloc_new (w.alloc (.cells #[.int .i64 a] 3)) (.cells #[.int .i64 s] 3)) (.cells #[.int .u64 sn] 25)) 0
    rw [box1] at this
    rw [hV]; exact this
  have c2 : V.cell? ⟨w.heap.size + 1 + 1, 0, none⟩ = some (.int .u64 sn) := by
    have := blk_cell (heap_alloc_new ((w.alloc (.cells #[.int .i64 a] 3)).alloc (.cells #[.int .i64 s] 3)) (.cells #[.int .u64 sn] 25)) 0
    rw [box1, box1] at this
    rw [hV]; exact this
  have HC := Lib.hid (changed_take A n c w.heap.size (w.heap.size + 1) (w.heap.size + 1 + 1) l (takeF l a s sn) V (h.below hbV) (hS.below hbV) hn (fun q => by unfold takeF; rw [if_pos q]) (takeF_err _ _ _ _)
    (fun W v ho hb hm => takeC_any _ _ _ _ v l a s sn W (cell_keep hb (by simp; omega) c0) (cell_keep hb (by simp; omega) c1) (cell_keep hb (by simp; omega) c2) ho ((hS.below hbV).below hb) hm hb.size hwf))
  have HBV := Lib.hid hbV
  have HV := Lib.hid hV
  clear c0 c1 c2 hbV h hS hsz
  rw [hV] at HC HBV
  clear hV hwf
  generalize takeF l a s sn = R at *
  go_enter Tryd.func20, Tryd.ntmps20
  go_wp2_with fail
  refine HC.out.mono ?_
  rintro e w' h
  have h := h.from HBV.out
  obtain ⟨A', c', rfl, hp, hb⟩ := h
  have HE : Hid (AnsTo w R (.returned (.tuple #[.slice A' R.2.length c', .int .i64 (R.1 : Int)])) w') := Lib.hid ⟨A', c', rfl, hp, hb⟩
  clear hp hb
  go_wp2
  go_ret2
  exact HE.out
end Go.Proofs.YtooahpfeamobcaaDoor
