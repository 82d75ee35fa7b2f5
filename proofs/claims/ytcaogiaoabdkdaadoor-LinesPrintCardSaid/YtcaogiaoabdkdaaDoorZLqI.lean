/-
  Package lines: unhex.
-/
import Derived.Test.YtcaogiaoabdkdaaDoorZLqH
namespace Go.Proofs.YtcaogiaoabdkdaaDoor
open Go.RowKit Go Go.Shelf
set_option linter.unusedVariables false
set_option linter.unusedSimpArgs false
set_option maxRecDepth 1000000
set_option maxHeartbeats 1000000
def digs : List Nat := [48, 49, 50, 51, 52, 53, 54, 55, 56, 57, 97, 98, 99, 100, 101, 102]
theorem idx_dg {c : Nat} (hc : c < 256) : idxL c digs = dgI c := by
  have h : (List.range 256).all (fun c => idxL c digs == dgI c) = true := by kernel_rfl
  have := List.all_eq_true.1 h c (List.mem_range.2 hc)
  exact eq_of_beq this
def dv (c : Nat) : Nat := (dgL c).getD 0
theorem dv_lt (c : Nat) : dv c < 16 := by
  unfold dv
  cases h : dgL c with
  | none => decide
  | some d => exact dg_lt h
/-- a byte of those that k signs tell -/
def fx (l : List Nat) (k i : Nat) : Nat := if 2 * i + 1 < k then 16 * dv (l.getD (2 * i) 0) + dv (l.getD (2 * i + 1) 0) else if 2 * i < k then dv (l.getD (2 * i) 0) else 0
theorem fx_lt (l : List Nat) (k i : Nat) : fx l k i < 256 := by
  have h1 := dv_lt (l.getD (2 * i) 0)
  have h2 := dv_lt (l.getD (2 * i + 1) 0)
  unfold fx
  split
  · omega
  · split <;> omega
theorem fx_even (l : List Nat) (j i : Nat) : fx l (2 * j + 1) i = if i = j then dv (l.getD (2 * j) 0) else fx l (2 * j) i := by
  unfold fx
  by_cases e : i = j
  · subst e; rw [if_pos rfl, if_neg (by omega), if_pos (by omega)]
  · rw [if_neg e]
    by_cases h : i < j
    · rw [if_pos (by omega), if_pos (by omega)]
    · rw [if_neg (by omega), if_neg (by omega), if_neg (by omega), if_neg (by omega)]
theorem fx_odd (l : List Nat) (j i : Nat) : fx l (2 * j + 2) i = if i = j then 16 * dv (l.getD (2 * j) 0) + dv (l.getD (2 * j + 1) 0) else fx l (2 * j + 1) i := by
  unfold fx
  by_cases e : i = j
  · subst e; rw [if_pos rfl, if_pos (by omega)]
  · rw [if_neg e]
    by_cases h : i < j
    · rw [if_pos (by omega), if_pos (by omega)]
    · rw [if_neg (by omega), if_neg (by omega), if_neg (by omega), if_neg (by omega)]
theorem fx_at (l : List Nat) (j : Nat) : fx l (2 * j) j = 0 ∧ fx l (2 * j + 1) j = dv (l.getD (2 * j) 0) := by
  unfold fx
  rw [if_neg (by omega), if_neg (by omega), if_neg (by omega), if_pos (by omega)]
  exact ⟨rfl, rfl⟩
theorem unh_all (m : Nat) : ∀ l : List Nat, l.length = 2 * m → (∀ j, j < l.length → (dgL (l.getD j 0)).isSome = true) → unhL l = some ((List.range m).map (fx l (2 * m))) := by
  induction m with
  | zero => intro l hl _; rw [List.eq_nil_of_length_eq_zero hl]; rfl
  | succ m ih =>
    intro l hl h
    match l, hl with
    | x :: y :: r, hl =>
      have h0 := h 0 (by simp)
      have h1 := h 1 (by simp)
      rw [show (x :: y :: r).getD 0 0 = x from rfl] at h0
      rw [show (x :: y :: r).getD 1 0 = y from rfl] at h1
      obtain ⟨a, ha⟩ := Option.isSome_iff_exists.1 h0
      obtain ⟨b, hb⟩ := Option.isSome_iff_exists.1 h1
      have hr := ih r (by simp at hl; omega) (fun j hj => by have := h (j + 2) (by simp; omega); simpa using this)
      rw [unhL, ha, hb, hr]
      simp only []
      congr 1
      rw [List.range_succ_eq_map, List.map_cons, List.map_map]
      congr 1
      · unfold fx dv
        rw [if_pos (by omega)]
        show _ = 16 * (dgL x).getD 0 + (dgL y).getD 0
        rw [ha, hb]; rfl
      · apply List.map_congr_left
        intro i _
        show fx r (2 * m) i = fx (x :: y :: r) (2 * (m + 1)) (i + 1)
        unfold fx
        have e1 : (x :: y :: r).getD (2 * (i + 1)) 0 = r.getD (2 * i) 0 := by rw [show 2 * (i + 1) = 2 * i + 1 + 1 by omega]; simp
        have e2 : (x :: y :: r).getD (2 * (i + 1) + 1) 0 = r.getD (2 * i + 1) 0 := by rw [show 2 * (i + 1) + 1 = (2 * i + 1) + 1 + 1 by omega]; simp
        rw [e1, e2]
        by_cases c1 : 2 * i + 1 < 2 * m
        · rw [if_pos c1, if_pos (by omega)]
        · rw [if_neg c1, if_neg (by omega), if_neg (by omega), if_neg (by omega)]
theorem unh_bad : ∀ l : List Nat, (∃ j, j < l.length ∧ dgL (l.getD j 0) = none) → unhL l = none
  | [], h => by obtain ⟨j, hj, _⟩ := h; simp at hj
  | [x], _ => rfl
  | x :: y :: r, h => by
    obtain ⟨j, hj, hd⟩ := h
    rw [unhL]
    match j, hj with
    | 0, _ => rw [show (x :: y :: r).getD 0 0 = x from rfl] at hd; rw [hd]
    | 1, _ => rw [show (x :: y :: r).getD 1 0 = y from rfl] at hd; rw [hd]; cases dgL x <;> rfl
    | j + 2, hj =>
      rw [unh_bad r ⟨j, by simpa using hj, by simpa using hd⟩]
      cases dgL x <;> cases dgL y <;> rfl
theorem or_nib {a n : Nat} (ha : a < 16) (hn : n < 16) : bits .or .u8 ((16 * a : Nat) : Int) ((n : Nat) : Int) = ((16 * a + n : Nat) : Int) := by
  rw [or8 (by omega) (by omega)]
  have h : ∀ a : Fin 16, ∀ n : Fin 16, (16 * a.val) ||| n.val = 16 * a.val + n.val := by decide
  have := h ⟨a, ha⟩ ⟨n, hn⟩
  simp only at this
  rw [this]
def UhTo (w : World) (b o : Nat) (t : TypeId) (cs : Array Value) (wd : List Nat) (e : Ending) (w' : World) : Prop := ∃ (A : Option Addr) (c : Nat) (l : List Nat) (ok : Bool), e = .returned (.bool ok) ∧ Cel1 w' b o t cs (.slice A l.length c) ∧ Own w' w.heap.size (.slice A l.length c) l ∧ (∀ i, l.getD i 0 < 256) ∧ Turns (fun k => k = b) w w' ∧ bytL wd = if ok = true then some l else none
theorem unhex_any (b o : Nat) (t : TypeId) (cs : Array Value) (wd : List Nat) (hm : ∀ i, wd.getD i 0 < 256) (hn : wd.length ≤ 1000000) (w : World) (hx : w.heap[b]? = some (.cells cs t (0, 0))) (hc : cs[o]? = some (.slice none 0 0)) :
    Calls Tryd.prog 69 #[.pointer (some ⟨b, o, none⟩), .string (str wd)] w (UhTo w b o t cs wd) := by
  have hsz := str_size wd
  have hso : o < cs.size := (Array.getElem?_eq_some_iff.1 hc).1
  have hem := emp_str hm
  have hmi : ((str wd).toList == ([45] : List UInt8)) = decide (wd = [45]) := by
    rw [← str_toList hm (m := [45]) (fun i => by match i with | 0 => decide | i + 1 => simp)]; rw [show (str [45]).toList = ([45] : List UInt8) by rw [toList_data]; rfl]
  have hlt := blk_lt hx
  have HSAME : Hid (Cel1 w b o t cs (.slice none 0 0)) := Lib.hid (by unfold Cel1; rw [set_same hc]; exact hx)
  have HT0 := Lib.hid (Turns.of_below (S := fun k => k = b) (Below.refl w.heap.size w))
  have HNIL : Hid (∀ W (ok : Bool), bytL wd = (if ok = true then some [] else none) → Cel1 W b o t cs (.slice none 0 0) → Turns (fun k => k = b) w W → UhTo w b o t cs wd (.returned (.bool ok)) W) := Lib.hid (fun W ok h1 h2 h3 => ⟨none, 0, [], ok, rfl, h2, Own.nil _ _, fun i => by simp, h3, h1⟩)
  by_cases c1 : wd = [45]
  · have HF := Lib.hid (HNIL.out w true (by rw [bytL, if_pos c1]; rfl) HSAME.out HT0.out)
    have hq : ((str wd).toList == ([45] : List UInt8)) = true := by rw [hmi, decide_eq_true_eq]; exact c1
    clear hem hmi c1
    generalize str wd = S at *
    go_enter Tryd.func69, Tryd.ntmps69
    go_wp2_with fail
    go_ret
    exact HF.out
  · have hq : ((str wd).toList == ([45] : List UInt8)) = false := by rw [hmi, decide_eq_false_iff_not]; exact c1
    have hrm : ((wd.length : Int)).tmod 2 = ((wd.length % 2 : Nat) : Int) := by rw [Int.tmod_eq_emod_of_nonneg (by omega)]; omega
    by_cases c2 : wd.length % 2 = 1
    · have HF := Lib.hid (HNIL.out w false (by
        rw [bytL, if_neg c1]
        split
        · rfl
        · rw [unh_odd _ c2]; rfl) HSAME.out HT0.out)
      rw [c2] at hrm
      clear hem hmi c1 c2 hn
      generalize wd.length = n at *
      generalize str wd = S at *
      go_enter Tryd.func69, Tryd.ntmps69
      go_wp2_with fail
      go_ret
      exact HF.out
    · have c20 : wd.length % 2 = 0 := by omega
      rw [c20] at hrm
      by_cases c3 : wd = []
      · have HF := Lib.hid (HNIL.out w false (by rw [bytL, if_neg c1, if_pos c3]; rfl) HSAME.out HT0.out)
        have hq3 : ((str wd).toList == ([] : List UInt8)) = true := by rw [hem, decide_eq_true_eq]; exact c3
        clear hem hmi c1 c2 c3 c20 hn
        generalize wd.length = n at *
        generalize str wd = S at *
        go_enter Tryd.func69, Tryd.ntmps69
        go_wp2_with fail
        go_ret
        exact HF.out
      · have hq3 : ((str wd).toList == ([] : List UInt8)) = false := by rw [hem, decide_eq_false_iff_not]; exact c3
        have HBY : Hid (bytL wd = unhL wd) := Lib.hid (by rw [bytL, if_neg c1, if_neg c3])
        obtain ⟨m, hm2⟩ : ∃ m, wd.length = 2 * m := ⟨wd.length / 2, by omega⟩
        have hm0 : 0 < m := by
          have : wd.length ≠ 0 := fun e => c3 (List.eq_nil_of_length_eq_zero e)
          omega
        have HALL := Lib.hid (unh_all m wd hm2)
        have HBAD := Lib.hid (unh_bad wd)
        have HIX := Lib.hid (fun j (h : j < wd.length) W => idx_at hm h W)
        have HIB := Lib.hid (fun c (h : c < 256) W => indexByte_any digs (by intro x hx; simp [digs] at hx; omega) c h W)
        rw [show str digs = (⟨#[48, 49, 50, 51, 52, 53, 54, 55, 56, 57, 97, 98, 99, 100, 101, 102]⟩ : ByteArray) from by kernel_rfl] at HIB
        have HMK := Lib.hid (fun W => run_make_bytes (P := Tryd.prog) 24 5 Tryd.underlying24 info_u8 m (by omega) W)
        have hmk := HMK.out w
        have HR0 : Hid (Row (w.alloc (.cells (zeros m) 5)) w.heap.size 5 (fun i => .int .u8 ((fx wd 0 i : Nat) : Int)) m) := Lib.hid (by
          have e : zeros m = rowV (fun i => Value.int .u8 ((fx wd 0 i : Nat) : Int)) m := rowV_ext (by simp [zeros]) (fun i hi => by
            rw [zeros_at hi]; unfold fx; rw [if_neg (by omega), if_neg (by omega)]; rfl)
          rw [e]; exact Row.new _ _ _ _)
        have HT1 : Hid (Turns (fun k => k = b) w (w.alloc (.cells (zeros m) 5))) := Lib.hid (Turns.of_below ((Below.refl _ _).alloc (Nat.le_refl _) _))
        have HC1 : Hid (Cel1 (w.alloc (.cells (zeros m) 5)) b o t cs (.slice none 0 0)) := Lib.hid ((((Below.refl w.heap.size w).alloc (Nat.le_refl _) _).block b hlt).trans HSAME.out)
        have hdv : ((wd.length : Int)).tdiv 2 = (m : Int) := by rw [Int.tdiv_eq_ediv_of_nonneg (by omega)]; omega
        have hnI : (wd.length : Int) = 2 * (m : Int) := by omega
        have HLT := Lib.hid hlt
        have HSO := Lib.hid hso
        have HM := Lib.hid hm
        have HN2 := Lib.hid hm2
        have hm9 : m ≤ 500000 := by omega
        clear hem hmi c1 c2 c3 c20 hlt hso hm hx hc
        rw [hm2] at hrm hdv hsz
        clear hm2 hnI hn
        obtain ⟨n, hn⟩ : ∃ n, n = 2 * m := ⟨_, rfl⟩
        have HN := Lib.hid hn
        rw [← hn] at hrm hdv hsz
        have hn9 : n ≤ 1000000 := by omega
        clear hn
        generalize hSW : str wd = S at *
        clear hSW
        generalize w.alloc (.cells (zeros m) 5) = w1 at *
        go_enter Tryd.func69, Tryd.ntmps69
        go_wp2_with fail
        go_loopw [24] (fun iv wr => ∃ k : Nat, iv = .int .i64 (k : Int) ∧ k ≤ n ∧ (∀ j, j < k → (dgL (wd.getD j 0)).isSome = true) ∧ Row wr w.heap.size 5 (fun i => .int .u8 ((fx wd k i : Nat) : Int)) m ∧ Cel1 wr b o t cs (.slice none 0 0) ∧ Turns (fun k => k = b) w wr) (fun iv _ => (n - RowKit.intOf iv).toNat)
        case atStart => exact ⟨0, rfl, Nat.zero_le _, fun j hj => by omega, HR0.out, HC1.out, HT1.out⟩
        case round =>
          obtain ⟨k, rfl, hk, hd, hr, hc, ht⟩ := hrel
          have HD := Lib.hid hd
          have HR := Lib.hid hr
          have HC := Lib.hid hc
          have HT := Lib.hid ht
          clear hd hr hc ht
          by_cases hlt : k < n
          · have hix := HIX.out k (by rw [HN2.out, ← HN.out]; exact hlt) wr
            have hxb := HM.out k
            have HIB1 := Lib.hid (HIB.out _ hxb)
            rw [idx_dg hxb] at HIB1
            have HQN : Hid (dgL (wd.getD k 0) = none → UhTo w b o t cs wd (.returned (.bool false)) wr) := Lib.hid (fun h => HNIL.out wr false (by rw [HBY.out, HBAD.out ⟨k, by rw [HN2.out, ← HN.out]; exact hlt, h⟩]; rfl) HC.out HT.out)
            cases hdg : dgL (wd.getD k 0) with
            | none =>
              have HF := Lib.hid (HQN.out hdg)
              have e1 : dgI (wd.getD k 0) = -1 := by unfold dgI; rw [hdg]
              rw [e1] at HIB1
              clear hdg HQN e1
              generalize wd.getD k 0 = x at *
              go_wp2_with fail
              refine (HIB1.out _).mono ?_
              rintro e w2 ⟨rfl, rfl⟩
              go_wp2_with fail
              go_ret
              exact HF.out
            | some d =>
              have hd16 := dg_lt hdg
              have e1 : dgI (wd.getD k 0) = (d : Int) := by unfold dgI; rw [hdg]
              have e2 : dv (wd.getD k 0) = d := by unfold dv; rw [hdg]; rfl
              have hkd : (k : Int).tdiv 2 = ((k / 2 : Nat) : Int) := by rw [Int.tdiv_eq_ediv_of_nonneg (by omega)]; omega
              have hkm : k / 2 < m := by have := HN.out; omega
              have c0 := HR.out.cell hkm
              have f0 := HR.out.free (k / 2)
              have HFE : Hid (∀ v, v = fx wd (k + 1) (k / 2) → (∃ q : Nat, Value.int .i64 ((k : Int) + 1) = .int .i64 (q : Int) ∧ q ≤ n ∧ (∀ j, j < q → (dgL (wd.getD j 0)).isSome = true) ∧ Row (wr.setCell ⟨w.heap.size, k / 2, none⟩ (.int .u8 ((v : Nat) : Int))) w.heap.size 5 (fun i => .int .u8 ((fx wd q i : Nat) : Int)) m ∧ Cel1 (wr.setCell ⟨w.heap.size, k / 2, none⟩ (.int .u8 ((v : Nat) : Int))) b o t cs (.slice none 0 0) ∧ Turns (fun k => k = b) w (wr.setCell ⟨w.heap.size, k / 2, none⟩ (.int .u8 ((v : Nat) : Int))))) := Lib.hid (fun v hv => ⟨k + 1, by simp, by omega, fun j hj => by
                by_cases e : j = k
                · rw [e, hdg]; rfl
                · exact HD.out j (by omega), (HR.out.set_ (k / 2) (.int .u8 ((v : Nat) : Int))).congr (fun i hi => by
                  by_cases e : i = k / 2
                  · rw [if_pos e, hv, e]
                  · rw [if_neg e]
                    congr 2
                    rcases Nat.mod_two_eq_zero_or_one k with h | h
                    · obtain ⟨q, rfl⟩ : ∃ q, k = 2 * q := ⟨k / 2, by omega⟩
                      rw [fx_even, if_neg (by omega)]
                    · obtain ⟨q, rfl⟩ : ∃ q, k = 2 * q + 1 := ⟨k / 2, by omega⟩
                      rw [fx_odd, if_neg (by omega)]), (Below.heap_setCell _ _ _ _ (by show b ≠ w.heap.size; have := HLT.out; omega)).trans HC.out, HT.out.trans (Turns.set (S := fun k => k = w.heap.size) ⟨w.heap.size, k / 2, none⟩ _ rfl) (fun j hj e => by omega)⟩)
              have hw8 : IntKind.u8.wrap (d : Int) = (d : Int) := IntWalk.u8_in _ (by omega)
              rw [e1] at HIB1
              rcases Nat.mod_two_eq_zero_or_one k with h2 | h2
              · have hv0 : fx wd k (k / 2) = 0 := by
                  obtain ⟨q, rfl⟩ : ∃ q, k = 2 * q := ⟨k / 2, by omega⟩
                  rw [show 2 * q / 2 = q by omega]; exact (fx_at wd q).1
                have HF := Lib.hid (HFE.out d (by
                  obtain ⟨q, rfl⟩ : ∃ q, k = 2 * q := ⟨k / 2, by omega⟩
                  rw [show 2 * q / 2 = q by omega, (fx_at wd q).2, e2]))
                rw [hv0] at c0
                have ho : bits .or .u8 0 (d : Int) = (d : Int) := by have := or_nib (a := 0) (n := d) (by omega) hd16; simpa using this
                clear e1 e2 hdg HFE HQN hv0 h2
                generalize wd.getD k 0 = x at *
                generalize k / 2 = kk at *
                have hkk : (kk : Int) < (m : Int) := by omega
                go_wp2_with fail
                refine (HIB1.out _).mono ?_
                rintro e w2 ⟨rfl, rfl⟩
                go_wp2_with fail
                go_roundw
                case rel => exact HF.out
                case measure => (simp [RowKit.intOf] <;> omega)
              · obtain ⟨a, ha⟩ : ∃ a, a = fx wd k (k / 2) := ⟨_, rfl⟩
                have ha16 : a < 16 := by
                  obtain ⟨q, rfl⟩ : ∃ q, k = 2 * q + 1 := ⟨k / 2, by omega⟩
                  rw [ha, show (2 * q + 1) / 2 = q by omega, (fx_at wd q).2]; exact dv_lt _
                have HF := Lib.hid (HFE.out (16 * a + d) (by
                  obtain ⟨q, rfl⟩ : ∃ q, k = 2 * q + 1 := ⟨k / 2, by omega⟩
                  rw [ha, show (2 * q + 1) / 2 = q by omega, fx_odd, if_pos rfl, (fx_at wd q).2, e2]))
                rw [← ha] at c0
                have ho := or_nib ha16 hd16
                obtain ⟨nv, hnv⟩ : ∃ nv, nv = 16 * a + d := ⟨_, rfl⟩
                rw [← hnv] at HF ho
                have ha16I : ((a : Int) * 16) = ((16 * a : Nat) : Int) := by omega
                have hw9 : IntKind.u8.wrap ((a : Int) * 16) = ((16 * a : Nat) : Int) := by rw [IntWalk.u8_in _ (by omega)]; omega
                have hshl : (a : Int) <<< 4 = (a : Int) * 16 := by rw [Int.shiftLeft_eq]; rfl
                clear e1 e2 hdg HFE HQN h2 hnv ha
                generalize wd.getD k 0 = x at *
                generalize k / 2 = kk at *
                generalize (16 * a : Nat) = a16 at *
                have hkk : (kk : Int) < (m : Int) := by omega
                go_wp2_with fail
                refine (HIB1.out _).mono ?_
                rintro e w2 ⟨rfl, rfl⟩
                go_wp2_with fail
                go_roundw
                case rel => exact HF.out
                case measure => (simp [RowKit.intOf] <;> omega)
          · obtain rfl : k = n := by omega
            have HO : Hid (Own wr w.heap.size (.slice (some ⟨w.heap.size, 0, none⟩) m m) ((List.range m).map (fx wd k))) := Lib.hid (Own.blk (Nat.le_refl _) HR.out (by simp) (Nat.le_refl _) (by unfold maxLen; omega) (rowV_size _ _) (by
              unfold rowV bvals
              rw [List.toList_toArray, List.take_of_length_le (by simp), List.map_map]; rfl))
            have HB : Hid (unhL wd = some ((List.range m).map (fx wd k))) := Lib.hid (by rw [HALL.out (fun j hj => HD.out j (by rw [HN2.out, ← HN.out] at hj; exact hj)), HN.out])
            have HF : Hid (UhTo w b o t cs wd (.returned (.bool true)) (wr.setCell ⟨b, o, none⟩ (.slice (some ⟨w.heap.size, 0, none⟩) m m))) := Lib.hid ⟨some ⟨w.heap.size, 0, none⟩, m, (List.range m).map (fx wd k), true, rfl, by
              have := HC.out.put (.slice (some ⟨w.heap.size, 0, none⟩) m m)
              rw [show ((List.range m).map (fx wd k)).length = m by simp]; exact this, by
              rw [show ((List.range m).map (fx wd k)).length = m by simp]
              exact ownsRow_setCell_below HO.out (by show b < w.heap.size; exact HLT.out) _, fun i => getD_lt256 (fun c hc => by
                obtain ⟨j, _, rfl⟩ := List.mem_map.1 hc
                exact fx_lt _ _ _) i, HT.out.trans (Turns.set (S := fun k => k = b) ⟨b, o, none⟩ _ rfl) (fun j _ h => h), by rw [HBY.out, HB.out]; rfl⟩
            have q0 := HC.out.cell HSO.out
            have f0 := blk_free HC.out o
            go_wp2_with fail
            go_ret
            exact HF.out
end Go.Proofs.YtcaogiaoabdkdaaDoor
