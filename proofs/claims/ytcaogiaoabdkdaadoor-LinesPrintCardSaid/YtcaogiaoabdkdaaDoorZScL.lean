/-
  Package garderoberef27: Same, All.
-/
import Derived.Test.YtcaogiaoabdkdaaDoorZScG
namespace Go.Proofs.YtcaogiaoabdkdaaDoor
open Go.RowKit Go
set_option linter.unusedVariables false
set_option linter.unusedSimpArgs false
set_option maxRecDepth 100000
set_option maxHeartbeats 8000000 in
theorem rsame_in (kd : Int) (y : Bool) (z1 z2 z3 z4 : Int) (A : Option Addr) (n c : Nat) (kd' : Int) (y' : Bool) (z1' z2' z3' z4' : Int) (A' : Option Addr) (n' c' : Nat) (b b' : List Nat) (like : Bool) (w : World) (hs : BS w w.heap.size A n c b) (hs' : BS w w.heap.size A' n' c' b') :
    Calls Tryd.prog 31 #[.agg #[.int .i64 kd, .bool y, .int .i64 z1, .int .i64 z2, .int .i64 z3, .int .i64 z4, .slice A n c], .agg #[.int .i64 kd', .bool y', .int .i64 z1', .int .i64 z2', .int .i64 z3', .int .i64 z4', .slice A' n' c'], .bool like] w (SameTo w (sameF like ⟨kd, y, z1, z2, z3, z4, b⟩ ⟨kd', y', z1', z2', z3', z4', b'⟩)) := by
  obtain ⟨W0, hW, hb0, hsz, hx, hx'⟩ := two_blk w (.cells #[.int .i64 kd, .bool y, .int .i64 z1, .int .i64 z2, .int .i64 z3, .int .i64 z4, .slice A n c] 26) (.cells #[.int .i64 kd', .bool y', .int .i64 z1', .int .i64 z2', .int .i64 z3', .int .i64 z4', .slice A' n' c'] 26)
  have HB0 := Lib.hid hb0
  have hc1 := conv_at (hs.below hb0)
  have hc2 := conv_at (hs'.below hb0)
  have HSS := Lib.hid (str_toList hs.byte hs'.byte)
  have HL := Lib.hid hs.len
  have HL' := Lib.hid hs'.len
  have HW := Lib.hid hW.symm
  have p0 : W0.cell? ⟨w.heap.size, 0, none⟩ = some (.int .i64 kd) := blk_cell hx 0
  have p1 : W0.cell? ⟨w.heap.size, 1, none⟩ = some (.bool y) := blk_cell hx 1
  have p2 : W0.cell? ⟨w.heap.size, 2, none⟩ = some (.int .i64 z1) := blk_cell hx 2
  have p3 : W0.cell? ⟨w.heap.size, 3, none⟩ = some (.int .i64 z2) := blk_cell hx 3
  have p4 : W0.cell? ⟨w.heap.size, 4, none⟩ = some (.int .i64 z3) := blk_cell hx 4
  have p5 : W0.cell? ⟨w.heap.size, 5, none⟩ = some (.int .i64 z4) := blk_cell hx 5
  have p6 : W0.cell? ⟨w.heap.size, 6, none⟩ = some (.slice A n c) := blk_cell hx 6
  have q0 : W0.cell? ⟨w.heap.size + 1, 0, none⟩ = some (.int .i64 kd') := blk_cell hx' 0
  have q1 : W0.cell? ⟨w.heap.size + 1, 1, none⟩ = some (.bool y') := blk_cell hx' 1
  have q2 : W0.cell? ⟨w.heap.size + 1, 2, none⟩ = some (.int .i64 z1') := blk_cell hx' 2
  have q3 : W0.cell? ⟨w.heap.size + 1, 3, none⟩ = some (.int .i64 z2') := blk_cell hx' 3
  have q4 : W0.cell? ⟨w.heap.size + 1, 4, none⟩ = some (.int .i64 z3') := blk_cell hx' 4
  have q5 : W0.cell? ⟨w.heap.size + 1, 5, none⟩ = some (.int .i64 z4') := blk_cell hx' 5
  have q6 : W0.cell? ⟨w.heap.size + 1, 6, none⟩ = some (.slice A' n' c') := blk_cell hx' 6
  have HNO : Hid (∀ r, sameF like ⟨kd, y, z1, z2, z3, z4, b⟩ ⟨kd', y', z1', z2', z3', z4', b'⟩ = r → SameTo w (sameF like ⟨kd, y, z1, z2, z3, z4, b⟩ ⟨kd', y', z1', z2', z3', z4', b'⟩) (.returned (.bool r)) W0) := Lib.hid (fun r h => ⟨by rw [h], HB0.out⟩)
  clear hW hx hx' hb0 hsz hs hs'
  by_cases h0 : kd = kd'
  · subst h0
    by_cases hy : y = y'
    · subst hy
      by_cases h2 : z1 = z1'
      · subst h2
        by_cases h3 : z2 = z2'
        · subst h3
          by_cases h4 : z3 = z3'
          · subst h4
            by_cases h5 : z4 = z4'
            · subst h5
              by_cases hn : n = n'
              · subst hn
                have hbl : b.length = b'.length := by rw [HL.out, HL'.out]
                have HD : Hid (∀ d : Bool, (like && kd == 9) = d → SameTo w (sameF like ⟨kd, y, z1, z2, z3, z4, b⟩ ⟨kd, y, z1, z2, z3, z4, b'⟩) (.returned (.bool (d || decide (b = b')))) W0) := Lib.hid (fun d h => HNO.out _ (by unfold sameF; rw [← h]; simp [hbl]))
                have hss := HSS.out
                generalize decide (b = b') = e at *
                clear HNO HSS HL HL' hbl
                cases like
                · have HF := Lib.hid (HD.out false rfl)
                  clear HD
                  go_enter Tryd.func31, Tryd.ntmps31
                  go_upto_region 1 with (fail)
                  rw [HW.out]
                  go_wp2
                  go_ret
                  exact HF.out
                · by_cases hk : kd = 9
                  · have HF := Lib.hid (HD.out true (by simp [hk]))
                    clear HD
                    subst hk
                    go_enter Tryd.func31, Tryd.ntmps31
                    go_upto_region 1 with (fail)
                    rw [HW.out]
                    go_wp2
                    go_ret
                    exact HF.out
                  · have hq : (kd == 9) = false := by rw [beq_eq_false_iff_ne]; exact hk
                    have HF := Lib.hid (HD.out false (by simp [hq]))
                    clear HD hk
                    go_enter Tryd.func31, Tryd.ntmps31
                    go_upto_region 1 with (fail)
                    rw [HW.out]
                    go_wp2
                    go_ret
                    exact HF.out
              · have hq : ((n : Int) != (n' : Int)) = true := by rw [bne_iff_ne]; omega
                have hbl : ¬ b.length = b'.length := by rw [HL.out, HL'.out]; exact hn
                have HF := Lib.hid (HNO.out false (by unfold sameF; simp [hbl]))
                clear HNO HSS HL HL' hc1 hc2
                clear hbl hn
                go_enter Tryd.func31, Tryd.ntmps31
                go_upto_region 1 with (fail)
                rw [HW.out]
                go_wp2
                go_ret
                exact HF.out
            · have hq : (z4 != z4') = true := by rw [bne_iff_ne]; exact h5
              have HF := Lib.hid (HNO.out false (by unfold sameF; simp [h5]))
              clear HNO HSS HL HL' hc1 hc2
              clear h5
              go_enter Tryd.func31, Tryd.ntmps31
              go_upto_region 1 with (fail)
              rw [HW.out]
              go_wp2
              go_ret
              exact HF.out
          · have hq : (z3 != z3') = true := by rw [bne_iff_ne]; exact h4
            have HF := Lib.hid (HNO.out false (by unfold sameF; simp [h4]))
            clear HNO HSS HL HL' hc1 hc2
            clear h4
            go_enter Tryd.func31, Tryd.ntmps31
            go_upto_region 1 with (fail)
            rw [HW.out]
            go_wp2
            go_ret
            exact HF.out
        · have hq : (z2 != z2') = true := by rw [bne_iff_ne]; exact h3
          have HF := Lib.hid (HNO.out false (by unfold sameF; simp [h3]))
          clear HNO HSS HL HL' hc1 hc2
          clear h3
          go_enter Tryd.func31, Tryd.ntmps31
          go_upto_region 1 with (fail)
          rw [HW.out]
          go_wp2
          go_ret
          exact HF.out
      · have hq : (z1 != z1') = true := by rw [bne_iff_ne]; exact h2
        have HF := Lib.hid (HNO.out false (by unfold sameF; simp [h2]))
        clear HNO HSS HL HL' hc1 hc2
        clear h2
        go_enter Tryd.func31, Tryd.ntmps31
        go_upto_region 1 with (fail)
        rw [HW.out]
        go_wp2
        go_ret
        exact HF.out
    · cases y <;> cases y'
      · exact absurd rfl hy
      · have HF := Lib.hid (HNO.out false (by unfold sameF; simp [hy]))
        clear HNO HSS HL HL' hc1 hc2
        clear hy
        go_enter Tryd.func31, Tryd.ntmps31
        go_upto_region 1 with (fail)
        rw [HW.out]
        go_wp2
        go_ret
        exact HF.out
      · have HF := Lib.hid (HNO.out false (by unfold sameF; simp [hy]))
        clear HNO HSS HL HL' hc1 hc2
        clear hy
        go_enter Tryd.func31, Tryd.ntmps31
        go_upto_region 1 with (fail)
        rw [HW.out]
        go_wp2
        go_ret
        exact HF.out
      · exact absurd rfl hy
  · have hq : (kd != kd') = true := by rw [bne_iff_ne]; exact h0
    have HF := Lib.hid (HNO.out false (by unfold sameF; simp [h0]))
    clear HNO HSS HL HL' hc1 hc2
    clear h0
    go_enter Tryd.func31, Tryd.ntmps31
    go_upto_region 1 with (fail)
    rw [HW.out]
    go_wp2
    go_ret
    exact HF.out
end Go.Proofs.YtcaogiaoabdkdaaDoor
