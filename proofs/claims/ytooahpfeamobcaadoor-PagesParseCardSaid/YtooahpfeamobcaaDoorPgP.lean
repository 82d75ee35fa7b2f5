/-
  The example of chapter 19.
-/
import Derived.Test.YtooahpfeamobcaaDoorPgO
namespace Go.Proofs.YtooahpfeamobcaaDoor
open Go.RowKit Go
set_option linter.unusedVariables false
set_option linter.unusedSimpArgs false
set_option maxRecDepth 100000
def zrow (n : Nat) : Array Value := (flatP (List.replicate n pz)).toArray
theorem zrow_own (w : World) (E : TypeId) (n : Nat) (hn : n ≤ 1000) : OwnP (w.alloc (.cells (zrow n) E)) w.heap.size E (.slice (some ⟨w.heap.size, 0, none⟩) n n) (List.replicate n pz) := by
  unfold OwnP
  rw [List.length_replicate]
  have hl : (flatP (List.replicate n pz)).length = n * 5 := by rw [flatP_len, List.length_replicate]
  refine ⟨hl, .inr ⟨w.heap.size, n, zrow n, rfl, Nat.le_refl _, heap_alloc_new _ _, Nat.le_refl _, by unfold maxLen; omega, by unfold zrow; simp [hl], ?_⟩⟩
  unfold zrow
  rw [List.toList_toArray, List.take_of_length_le (by omega)]
theorem zrow_ps (w : World) (E : TypeId) (n : Nat) (hn : n ≤ 1000) : PS (w.alloc (.cells (zrow n) E)) (some ⟨w.heap.size, 0, none⟩) n n (List.replicate n pz) := by
  obtain ⟨A, c, hv, hp, _⟩ := (zrow_own w E n hn).ps
  rw [List.length_replicate] at hv hp
  cases hv
  exact hp
def exL : List Pg := [pz, ⟨2, 0, 2, 300, 1⟩, ptl, pz]
theorem ex_take : takeF (List.replicate 4 pz) 1 300 1 = (0, exL) := by kernel_rfl
theorem ex_runs : runsI exL 0 = [(0, 1), (3, 1)] := by
  rw [runsI_run exL (a := 0) (n := 1) (by decide) rfl (by decide), runsI_skip exL (a := 0 + 1 + 1) (by decide) rfl, runsI_run exL (a := 0 + 1 + 1 + 1) (n := 1) (by decide) rfl (by decide), runsI_end exL (by decide)]
theorem make4 (w : World) : (Instr.makeSlice OS (.int .i64 4) (.int .i64 4)).run Tryd.prog w = .ok (.slice (some ⟨w.heap.size, 0, none⟩) 4 4) (w.alloc (.cells (zrow 4) OT)) := by kernel_rfl
set_option maxHeartbeats 4000000 in
theorem awake19_any (w : World) (hS : SZ w) : Calls Tryd.prog 7 #[] w fun e w' => e = .returned (.bool true) ∧ Below w.heap.size w w' := by
  have hmk := make4
  have HT := Lib.hid (ptake_any (some ⟨w.heap.size, 0, none⟩) 4 4 (List.replicate 4 pz) 1 300 1 (w.alloc (.cells (zrow 4) OT)) (zrow_ps w OT 4 (by omega)) (sz_alloc hS _) (by omega) (by omega))
  rw [ex_take] at HT
  have HR : Hid (∀ (A : Option Addr) (c : Nat) (W : World), PS W A 4 c exL → Below w.heap.size w W → Calls Tryd.prog 21 #[.slice A 4 c] W (RunTo W [(0, 1), (3, 1)])) := Lib.hid (fun A c W hp hb => by
    rw [← ex_runs]; exact runs_any A 4 c exL W hp (hS.below hb) (by omega))
  have HB0 := Lib.hid (bel_alloc w (.cells (zrow 4) OT))
  clear hS
  go_enter Tryd.func7, Tryd.ntmps7
  go_wp2_with fail
  refine HT.out.mono ?_
  rintro e w1 ⟨A, c, rfl, hp, hb⟩
  have HB1 := Lib.hid (HB0.out.trans (hb.mono HB0.out.size))
  have HP := Lib.hid hp
  clear hp hb hmk
  go_wp2_with fail
  refine (HR.out A c w1 HP.out HB1.out).mono ?_
  rintro e w2 ⟨Ar, cr, rfl, hr, hb⟩
  have HB2 := Lib.hid (HB1.out.trans (hb.mono HB1.out.size))
  obtain ⟨b, o, rfl, hx1, hcell⟩ := (HP.out.below hb).at_ (by decide)
  obtain ⟨b2, o2, rfl, hx2, hcell2⟩ := hr.at_ (by decide)
  have p1 := hcell 1 (by decide)
  have p2 := hcell 2 (by decide)
  have q1 := hcell2 1 (by decide)
  clear hcell hcell2 hr hb hx1 hx2
  have c0 : w2.cell? ⟨b, o + 5, none⟩ = some (.int .i64 2) := p1.c0
  have c2 : w2.cell? ⟨b, o + 5 + 2, none⟩ = some (.int .i64 2) := p1.c2
  have c2' : w2.cell? ⟨b, o + 7, none⟩ = some (.int .i64 2) := p1.c2
  have d0 : w2.cell? ⟨b, o + 10, none⟩ = some (.int .i64 3) := p2.c0
  have r0 : w2.cell? ⟨b2, o2 + 2, none⟩ = some (.int .i64 3) := q1.1
  have r1 : w2.cell? ⟨b2, o2 + 2 + 1, none⟩ = some (.int .i64 1) := q1.2
  have r1' : w2.cell? ⟨b2, o2 + 3, none⟩ = some (.int .i64 1) := q1.2
  have hex : exL.length = 4 := rfl
  have hc4 : 4 ≤ c := HP.out.cap
  clear p1 p2 q1
  go_wp2
  go_ret
  exact ⟨rfl, HB2.out⟩
end Go.Proofs.YtooahpfeamobcaaDoor
