/-
  Package lines: count.
-/
import Derived.Test.YtcaogiaoabdkdaaDoorZLqG
namespace Go.Proofs.YtcaogiaoabdkdaaDoor
open Go.RowKit Go Go.Shelf Go.Lib
set_option linter.unusedVariables false
set_option linter.unusedSimpArgs false
set_option maxRecDepth 1000000
set_option maxHeartbeats 1000000
/-- one cell of a block has become another one -/
def Cel1 (W : World) (b o : Nat) (t : TypeId) (cs : Array Value) (v : Value) : Prop := W.heap[b]? = some (.cells (cs.setIfInBounds o v) t (0, 0))
theorem set_same {cs : Array Value} {o : Nat} {v : Value} (h : cs[o]? = some v) : cs.setIfInBounds o v = cs := by
  apply Array.ext
  · simp
  · intro i h1 h2
    rw [Array.getElem_setIfInBounds]
    split
    · rename_i e; subst e
      have := (Array.getElem?_eq_some_iff.1 h).2
      exact this.symm
    · rfl
theorem set_twice (cs : Array Value) (o : Nat) (u v : Value) : (cs.setIfInBounds o u).setIfInBounds o v = cs.setIfInBounds o v := by simp
theorem Cel1.cell {W : World} {b o : Nat} {t : TypeId} {cs : Array Value} {v : Value} (h : Cel1 W b o t cs v) (ho : o < cs.size) : W.cell? ⟨b, o, none⟩ = some v := by
  rw [blk_cell h o, Array.getElem?_setIfInBounds_self_of_lt ho]
theorem Cel1.put {W : World} {b o : Nat} {t : TypeId} {cs : Array Value} {v : Value} (h : Cel1 W b o t cs v) (u : Value) : Cel1 (W.setCell ⟨b, o, none⟩ u) b o t cs u := by
  have := blk_set h o u
  rw [set_twice] at this
  exact this
def okN (wd : List Nat) : Bool := decide (wd ≠ [] ∧ wd.length ≤ 5) && wd.all digB
def CnTo (w : World) (b o : Nat) (t : TypeId) (cs : Array Value) (wd : List Nat) (e : Ending) (w' : World) : Prop := ∃ v : Int, e = .returned (.bool (okN wd)) ∧ Cel1 w' b o t cs (.int .i64 v) ∧ Turns (fun k => k = b) w w' ∧ (okN wd = true → v = ((valN wd : Nat) : Int))
def CnR (w : World) (b o : Nat) (t : TypeId) (cs : Array Value) (wd : List Nat) (S : ByteArray) (wr : World) : Prop := ∃ p, wr.heap[w.heap.size]? = some (.stringIter S p) ∧ p ≤ wd.length ∧ Cel1 wr b o t cs (.int .i64 ((valN (wd.take p) : Nat) : Int)) ∧ (wd.take p).all digB = true ∧ Turns (fun k => k = b) w wr
theorem count31_any (b o : Nat) (t : TypeId) (cs : Array Value) (wd : List Nat) (hm : ∀ i, wd.getD i 0 < 256) (w : World) (hx : w.heap[b]? = some (.cells cs t (0, 0))) (hc : cs[o]? = some (.int .i64 0)) :
    Calls Tryd.prog 70 #[.pointer (some ⟨b, o, none⟩), .string (str wd)] w (CnTo w b o t cs wd) := by
  have hsz := str_size wd
  have hso : o < cs.size := (Array.getElem?_eq_some_iff.1 hc).1
  have hem := emp_str hm
  have hlt := blk_lt hx
  have HSAME : Hid (Cel1 w b o t cs (.int .i64 0)) := Lib.hid (by unfold Cel1; rw [set_same hc]; exact hx)
  have HBAD : Hid (∀ W v, okN wd = false → Cel1 W b o t cs (.int .i64 v) → Turns (fun k => k = b) w W → CnTo w b o t cs wd (.returned (.bool false)) W) := Lib.hid (fun W v h1 h2 h3 => ⟨v, by rw [h1], h2, h3, fun h => by rw [h1] at h; cases h⟩)
  have HT0 := Lib.hid (Turns.of_below (S := fun k => k = b) (Below.refl w.heap.size w))
  by_cases h0 : wd = []
  · have hF := HBAD.out w 0 (by unfold okN; rw [decide_eq_false (fun h => h.1 h0)]; rfl) HSAME.out HT0.out
    have HF := Lib.hid hF
    have hq : ((str wd).toList == ([] : List UInt8)) = true := by rw [hem, decide_eq_true_eq]; exact h0
    clear hF hem h0
    generalize str wd = S at *
    go_enter Tryd.func70, Tryd.ntmps70
    go_wp2_with fail
    go_ret
    exact HF.out
  · have hq : ((str wd).toList == ([] : List UInt8)) = false := by rw [hem, decide_eq_false_iff_not]; exact h0
    by_cases h5 : wd.length ≤ 5
    · have HD := Lib.hid (fun i (h1 : i < wd.length) (h2 : 128 ≤ wd.getD i 0) => dec_high hm h1 h2)
      have HA : Hid (∀ i (h1 : i < wd.length), wd.getD i 0 < 128 → ∀ W (hk : W.heap[w.heap.size]? = some (.stringIter (str wd) i)) ty, (Instr.next (.pointer (some ⟨w.heap.size, 0, none⟩)) true ty).run Tryd.prog W = .ok (.tuple #[.bool true, .int .i64 (i : Int), .int .i32 ((wd.getD i 0 : Nat) : Int)]) (W.iterAt w.heap.size (str wd) (i + 1))) := Lib.hid (fun i h1 h2 W hk ty => by
        have hlt : i < (str wd).size := by rw [str_size]; exact h1
        have e := str_idx hm h1 hlt
        have := run_next_ascii_at (P := Tryd.prog) W w.heap.size (str wd) i ty hk hlt (by rw [e]; exact h2)
        rw [e] at this
        exact this)
      have HH : Hid (∀ i (h1 : i < wd.length) c k, Utf8.decode (str wd) i = (c, k) → ∀ W (hk : W.heap[w.heap.size]? = some (.stringIter (str wd) i)) ty, (Instr.next (.pointer (some ⟨w.heap.size, 0, none⟩)) true ty).run Tryd.prog W = .ok (.tuple #[.bool true, .int .i64 (i : Int), .int .i32 ((c : Nat) : Int)]) (W.iterAt w.heap.size (str wd) (i + k))) := Lib.hid (fun i h1 c k hd W hk ty => by
        have hlt : i < (str wd).size := by rw [str_size]; exact h1
        have := run_next_any_at (P := Tryd.prog) W w.heap.size (str wd) i ty hk hlt
        rw [hd] at this
        exact this)
      have HE : Hid (∀ W (hk : W.heap[w.heap.size]? = some (.stringIter (str wd) wd.length)) ty, (Instr.next (.pointer (some ⟨w.heap.size, 0, none⟩)) true ty).run Tryd.prog W = .ok (.tuple #[.bool false]) W) := Lib.hid (fun W hk ty => run_next_end_at W w.heap.size (str wd) wd.length ty hk (by rw [str_size]; exact Nat.lt_irrefl _))
      have HTI : Hid (Turns (fun k => k = b) w (w.iter (str wd) 0)) := Lib.hid (Turns.of_below ((Below.refl _ _).alloc (Nat.le_refl _) _))
      have HST : Hid (CnR w b o t cs wd (str wd) (w.iter (str wd) 0)) := Lib.hid ⟨0, World.iter_heap w _ 0, Nat.zero_le _, by
        have := (HTI.out.block) b hlt
        exact (show (w.iter (str wd) 0).heap[b]? = _ from ((Below.refl w.heap.size w).alloc (Nat.le_refl _) (.stringIter (str wd) 0)).block b hlt).trans HSAME.out, rfl, HTI.out⟩
      have HOK : Hid (okN wd = wd.all digB) := Lib.hid (by unfold okN; rw [decide_eq_true ⟨h0, h5⟩]; rfl)
      have HVT := Lib.hid (fun j (hj : j < wd.length) => val_take (l := wd) hj)
      have HAT := Lib.hid (fun j (hj : j < wd.length) => all_take (l := wd) hj)
      have HVL : Hid (∀ j, j ≤ wd.length → (wd.take j).all digB = true → valN (wd.take j) < 100000) := Lib.hid (fun j hj h => Nat.lt_of_lt_of_le (valN_lt _ h) (by
        rw [List.length_take]
        exact Nat.pow_le_pow_right (by omega) (show min j wd.length ≤ 5 by omega)))
      have HBL := Lib.hid hlt
      have HSO := Lib.hid hso
      obtain ⟨n, hnn⟩ : ∃ n, wd.length = n := ⟨_, rfl⟩
      have HLN := Lib.hid hnn
      rw [hnn] at hsz h5
      rw [HLN.out] at HE
      have HFA : Hid (wd.take n = wd) := Lib.hid (by rw [← hnn]; exact List.take_length)
      clear hnn hem h0 hso hlt HTI HSAME hx hc
      generalize str wd = S at *
      go_enter Tryd.func70, Tryd.ntmps70
      go_wp2_with fail
      go_loopw [6] (fun _ wr => CnR w b o t cs wd S wr) (fun _ wr => n - iterPos wr w.heap.size)
      case atStart => exact HST.out
      case round =>
        clear HST
        obtain ⟨p, hp1, hp2, hp3, hp4, hp5⟩ := hrel
        have HP := Lib.hid hp1
        have HC := Lib.hid hp3
        have HDG := Lib.hid hp4
        have HT := Lib.hid hp5
        have hlt1 : w.heap.size < wr.heap.size := (Array.getElem?_eq_some_iff.1 hp1).1
        have HL1 := Lib.hid hlt1
        rw [HLN.out] at hp2
        clear hp1 hp3 hp4 hp5 hlt1
        by_cases hlt : p < n
        · have HV1 := Lib.hid (HVL.out p (by rw [HLN.out]; exact hp2) HDG.out)
          have hv1 := HV1.out
          by_cases hx : wd.getD p 0 < 128
          · have hnx := HA.out p (by rw [HLN.out]; exact hlt) hx wr HP.out
            have HQ := Lib.hid (iterAt_heap wr w.heap.size S p (p + 1) HP.out)
            have HTQ : Hid (Turns (fun k => k = b) w (wr.iterAt w.heap.size S (p + 1))) := Lib.hid (HT.out.trans (S' := fun k => k = w.heap.size) ⟨rfl, rfl, rfl, by rw [iterAt_size]; exact Nat.le_refl _, fun k hk hn => iterAt_other _ _ _ _ _ hn⟩ (fun j hj e => by omega))
            have HCQ : Hid (Cel1 (wr.iterAt w.heap.size S (p + 1)) b o t cs (.int .i64 ((valN (wd.take p) : Nat) : Int))) := Lib.hid ((iterAt_other _ _ _ _ _ (by have := HBL.out; omega)).trans HC.out)
            have hva := HVT.out p (by rw [HLN.out]; exact hlt)
            have hal := HAT.out p (by rw [HLN.out]; exact hlt)
            rw [HDG.out, Bool.true_and] at hal
            have q0 := HCQ.out.cell HSO.out
            have f0 := blk_free HCQ.out o
            by_cases hd : digB (wd.getD p 0) = true
            · have hdd : 48 ≤ wd.getD p 0 ∧ wd.getD p 0 ≤ 57 := of_decide_eq_true hd
              obtain ⟨hd1, hd2⟩ := hdd
              rw [hd] at hal
              have HF : Hid (CnR w b o t cs wd S ((wr.iterAt w.heap.size S (p + 1)).setCell ⟨b, o, none⟩ (.int .i64 ((10 * valN (wd.take p) + (wd.getD p 0 - 48) : Nat) : Int)))) := Lib.hid ⟨p + 1, (Below.heap_setCell _ _ _ _ (by show w.heap.size ≠ b; have := HBL.out; omega)).trans HQ.out, by rw [HLN.out]; omega, by rw [hva]; exact HCQ.out.put _, hal, HTQ.out.trans (Turns.set (S := fun k => k = b) ⟨b, o, none⟩ _ rfl) (fun j _ h => h)⟩
              have HM : Hid (n - iterPos ((wr.iterAt w.heap.size S (p + 1)).setCell ⟨b, o, none⟩ (.int .i64 ((10 * valN (wd.take p) + (wd.getD p 0 - 48) : Nat) : Int))) w.heap.size < n - iterPos wr w.heap.size) := Lib.hid (by
                rw [iterPos_at ((Below.heap_setCell _ _ _ _ (by show w.heap.size ≠ b; have := HBL.out; omega)).trans HQ.out), iterPos_at HP.out]; omega)
              have heq : (((valN (wd.take p) : Nat) : Int) * 10 + (((wd.getD p 0 : Nat) : Int) - 48)) = ((10 * valN (wd.take p) + (wd.getD p 0 - 48) : Nat) : Int) := by omega
              clear hva hal hd HA HH HD
              generalize valN (wd.take p) = vv at *
              generalize wd.getD p 0 = x at *
              generalize (10 * vv + (x - 48) : Nat) = nv at *
              have i1 : ¬ (x : Int) < 48 := by omega
              have i2 : ¬ (57 : Int) < (x : Int) := by omega
              have w1 : IntKind.i32.wrap ((x : Int) - 48) = (x : Int) - 48 := IntWalk.i32_in _ (by omega)
              have w2 : IntKind.i64.wrap ((x : Int) - 48) = (x : Int) - 48 := IntWalk.i64_in _ (by omega)
              have w3 : IntKind.i64.wrap ((vv : Int) * 10) = (vv : Int) * 10 := IntWalk.i64_in _ (by omega)
              have w4 : IntKind.i64.wrap ((vv : Int) * 10 + ((x : Int) - 48)) = (nv : Int) := by rw [heq]; exact IntWalk.i64_in _ (by omega)
              have HEQ := Lib.hid heq
              clear heq
              go_wp2_with fail
              go_roundw
              case rel => exact HF.out
              case measure => exact HM.out
            · have hdf : digB (wd.getD p 0) = false := by cases h : digB (wd.getD p 0); rfl; exact absurd h hd
              have HF : Hid (CnTo w b o t cs wd (.returned (.bool false)) (wr.iterAt w.heap.size S (p + 1))) := Lib.hid (HBAD.out _ _ (by
                rw [HOK.out]
                exact List.all_eq_false.2 ⟨wd.getD p 0, by rw [List.getD_eq_getElem?_getD, List.getElem?_eq_getElem (by rw [HLN.out]; exact hlt)]; exact List.getElem_mem _, by rw [hdf]; simp⟩) HCQ.out HTQ.out)
              have hdd : ¬ (48 ≤ wd.getD p 0 ∧ wd.getD p 0 ≤ 57) := of_decide_eq_false hdf
              clear hva hal hd hdf HA HH HD
              generalize valN (wd.take p) = vv at *
              generalize wd.getD p 0 = x at *
              by_cases hlo : x < 48
              · have i1 : (x : Int) < 48 := by omega
                go_wp2_with fail
                go_ret
                exact HF.out
              · have i1 : ¬ (x : Int) < 48 := by omega
                have i2 : (57 : Int) < (x : Int) := by omega
                go_wp2_with fail
                go_ret
                exact HF.out
          · obtain ⟨c, k, hd, hc1, hc2, hk1, hk2, hk3⟩ := HD.out p (by rw [HLN.out]; exact hlt) (by omega)
            have hnx := HH.out p (by rw [HLN.out]; exact hlt) c k hd wr HP.out
            have HTQ : Hid (Turns (fun k => k = b) w (wr.iterAt w.heap.size S (p + k))) := Lib.hid (HT.out.trans (S' := fun k => k = w.heap.size) ⟨rfl, rfl, rfl, by rw [iterAt_size]; exact Nat.le_refl _, fun k hk hn => iterAt_other _ _ _ _ _ hn⟩ (fun j hj e => by omega))
            have HCQ : Hid (Cel1 (wr.iterAt w.heap.size S (p + k)) b o t cs (.int .i64 ((valN (wd.take p) : Nat) : Int))) := Lib.hid ((iterAt_other _ _ _ _ _ (by have := HBL.out; omega)).trans HC.out)
            have HF : Hid (CnTo w b o t cs wd (.returned (.bool false)) (wr.iterAt w.heap.size S (p + k))) := Lib.hid (HBAD.out _ _ (by
              rw [HOK.out]
              exact List.all_eq_false.2 ⟨wd.getD p 0, by rw [List.getD_eq_getElem?_getD, List.getElem?_eq_getElem (by rw [HLN.out]; exact hlt)]; exact List.getElem_mem _, by
                have : digB (wd.getD p 0) = false := decide_eq_false (by omega)
                rw [this]; simp⟩) HCQ.out HTQ.out)
            have i1 : ¬ (c : Int) < 48 := by omega
            have i2 : (57 : Int) < (c : Int) := by omega
            clear hd hk3 hk1 hk2 hc1 hc2 hx HA HH HD
            generalize p + k = q at *
            generalize valN (wd.take p) = vv at *
            go_wp2_with fail
            go_ret
            exact HF.out
        · obtain rfl : p = n := by omega
          have hnx := HE.out wr HP.out
          rw [HFA.out] at HC HDG
          have HF : Hid (CnTo w b o t cs wd (.returned (.bool true)) wr) := Lib.hid ⟨((valN wd : Nat) : Int), by rw [HOK.out, HDG.out], HC.out, HT.out, fun _ => rfl⟩
          clear HA HH HD
          go_wp2_with fail
          go_ret
          exact HF.out
    · have hF := HBAD.out w 0 (by unfold okN; rw [decide_eq_false (fun h => h5 h.2)]; rfl) HSAME.out HT0.out
      have HF := Lib.hid hF
      have h5I : (5 : Int) < (wd.length : Int) := by omega
      clear hF hem h0 h5 hx hc hm
      generalize wd.length = n at *
      generalize str wd = S at *
      go_enter Tryd.func70, Tryd.ntmps70
      go_wp2_with fail
      go_ret
      exact HF.out
end Go.Proofs.YtcaogiaoabdkdaaDoor
