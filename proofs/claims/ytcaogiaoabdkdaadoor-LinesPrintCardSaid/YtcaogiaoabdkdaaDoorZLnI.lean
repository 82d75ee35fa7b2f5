/-
  Joined: LnG, LnH, LnI.
-/
import Derived.Test.YtcaogiaoabdkdaaDoorZLnF
namespace Go.Proofs.YtcaogiaoabdkdaaDoor
set_option maxRecDepth 100000
section
open Go.RowKit Go
set_option linter.unusedVariables false
set_option linter.unusedSimpArgs false
set_option maxRecDepth 100000
set_option maxHeartbeats 1000000
theorem dg_lt {c d : Nat} (h : dgL c = some d) : d < 16 := by
  unfold dgL at h
  split at h
  · injection h with h; omega
  · split at h
    · injection h with h; omega
    · cases h
theorem unh_odd : ∀ l : List Nat, l.length % 2 = 1 → unhL l = none
  | [], h => by simp at h
  | [_], _ => rfl
  | x :: y :: r, h => by
    have := unh_odd r (by simp at h; omega)
    unfold unhL
    rw [this]
    cases dgL x <;> cases dgL y <;> rfl
theorem unh_drop {l : List Nat} {j : Nat} (h : j + 1 < l.length) : unhL (l.drop j) = (match dgL (l.getD j 0), dgL (l.getD (j + 1) 0), unhL (l.drop (j + 2)) with
    | some a, some b, some l => some ((16 * a + b) :: l)
    | _, _, _ => none) := by
  rw [List.drop_eq_getElem_cons (by omega : j < l.length), List.drop_eq_getElem_cons (by omega : j + 1 < l.length), List.getD_eq_getElem?_getD, List.getD_eq_getElem?_getD, List.getElem?_eq_getElem (by omega : j < l.length), List.getElem?_eq_getElem (by omega : j + 1 < l.length)]
  rfl
def BytTo (w : World) (l : List Nat) (e : Ending) (w' : World) : Prop := ∃ v ok, e = .returned (.tuple #[v, .bool ok]) ∧ Below w.heap.size w w' ∧ (∀ b, bytL l = some b → ok = true ∧ Own w' w.heap.size v b ∧ ∀ i, b.getD i 0 < 256) ∧ (bytL l = none → ok = false ∧ v = .slice none 0 0)
def ByR (w : World) (l : List Nat) (v iv : Value) (wr : World) : Prop := ∃ (i : Nat) (pre : List Nat) (u : Value), u = v ∧ iv = .int .i64 (i : Int) ∧ i % 2 = 0 ∧ i ≤ l.length ∧ pre.length ≤ i ∧ Own wr w.heap.size u pre ∧ (∀ x ∈ pre, x < 256) ∧ Below w.heap.size w wr ∧ bytL l = (unhL (l.drop i)).map (pre ++ ·)
theorem rbyt_any (l : List Nat) (hl : ∀ i, l.getD i 0 < 256) (hn : l.length ≤ 1000000) (w : World) :
    Calls Tryd.prog 50 #[.string (str l)] w (BytTo w l) := by
  have HI := Lib.hid (fun j (h : j < l.length) => idx_at hl h)
  have hsz := str_size l
  have hE : ((str l).toList == ([] : List UInt8)) = decide (l = []) := by
    have := str_toList hl (m := []) (by simp)
    rw [← this, show (str []).toList = ([] : List UInt8) by rw [toList_data]; rfl]
  have hE2 : ((str l).toList == ([45] : List UInt8)) = decide (l = [45]) := by
    have := str_toList hl (m := [45]) (by intro i; match i with | 0 => decide | i + 1 => simp)
    rw [← this, show (str [45]).toList = ([45] : List UInt8) by rw [toList_data]; rfl]
  have HDG := Lib.hid (fun c (h : c < 256) W => digit_any c h W)
  have HB0 := Lib.hid (Below.refl w.heap.size w)
  by_cases c1 : l = [45]
  · have HF : Hid (BytTo w l (.returned (.tuple #[.slice none 0 0, .bool true])) w) := Lib.hid ⟨_, _, rfl, HB0.out, fun b hb => by
      rw [bytL, if_pos c1] at hb
      injection hb with hb; subst hb
      exact ⟨rfl, Own.nil _ _, fun i => by simp⟩, fun h => by rw [bytL, if_pos c1] at h; cases h⟩
    have e2 : ((str l).toList == ([45] : List UInt8)) = true := by rw [hE2, decide_eq_true_eq]; exact c1
    clear hE hE2 c1
    generalize str l = S at *
    go_enter Tryd.func50, Tryd.ntmps50
    go_wp2_with fail
    go_ret2
    exact HF.out
  · have e2 : ((str l).toList == ([45] : List UInt8)) = false := by rw [hE2, decide_eq_false_iff_not]; exact c1
    have HBAD : Hid (∀ W, Below w.heap.size w W → bytL l = none → BytTo w l (.returned (.tuple #[.slice none 0 0, .bool false])) W) := Lib.hid (fun W h1 h2 => ⟨_, _, rfl, h1, fun b hb => (by rw [h2] at hb; cases hb), fun _ => ⟨rfl, rfl⟩⟩)
    by_cases c2 : l = []
    · have e1 : ((str l).toList == ([] : List UInt8)) = true := by rw [hE, decide_eq_true_eq]; exact c2
      have HF := Lib.hid (HBAD.out w HB0.out (by rw [bytL, if_neg c1, if_pos c2]))
      clear hE hE2 c1 c2 HBAD
      generalize str l = S at *
      go_enter Tryd.func50, Tryd.ntmps50
      go_wp2_with fail
      go_ret2
      exact HF.out
    · have e1 : ((str l).toList == ([] : List UInt8)) = false := by rw [hE, decide_eq_false_iff_not]; exact c2
      have HU : Hid (bytL l = unhL l) := Lib.hid (by rw [bytL, if_neg c1, if_neg c2])
      by_cases c3 : l.length % 2 = 1
      · have HF := Lib.hid (HBAD.out w HB0.out (by rw [HU.out]; exact unh_odd l c3))
        have hr : ((l.length : Int)).tmod 2 = 1 := by rw [Int.tmod_eq_emod_of_nonneg (by omega)]; omega
        clear hE hE2 c1 c2 c3 HBAD HU
        generalize l.length = n at *
        generalize str l = S at *
        go_enter Tryd.func50, Tryd.ntmps50
        go_wp2_with fail
        go_ret2
        exact HF.out
      · have hr : ((l.length : Int)).tmod 2 = 0 := by rw [Int.tmod_eq_emod_of_nonneg (by omega)]; omega
        have HR : Hid (ByR w l (.slice none 0 0) (.int .i64 0) w) := Lib.hid ⟨0, [], _, rfl, rfl, rfl, Nat.zero_le _, Nat.le_refl _, Own.nil _ _, fun x hx => (List.not_mem_nil hx).elim, HB0.out, by rw [HU.out, List.drop_zero]; cases unhL l <;> simp⟩
        have hev : l.length % 2 = 0 := by omega
        clear hE hE2 c1 c2 c3
        obtain ⟨n, hnn⟩ : ∃ n, l.length = n := ⟨_, rfl⟩
        have HLN := Lib.hid hnn
        rw [hnn] at hsz hn hr hev
        clear hnn
        have HST : Hid (str l = str l) := Lib.hid rfl
        generalize hS : str l = S at *
        clear HST hS
        go_enter Tryd.func50, Tryd.ntmps50
        go_wp2_with fail
        go_loopw [4, 5] (fun sv iv wr => ByR w l sv iv wr) (fun _ iv _ => ((n : Int) - intOf iv).toNat)
        case atStart => exact HR.out
        case round =>
          clear HR
          obtain ⟨i, pre, v, rfl, rfl, hi2, hi, hpl, ho, hpb, hb, hbl⟩ := hrel
          rw [HLN.out] at hi
          have HO := Lib.hid ho
          have HB := Lib.hid hb
          have HPB := Lib.hid hpb
          have HBL := Lib.hid hbl
          clear ho hb hpb hbl
          by_cases hlt : i < n
          · have hx0 := HI.out i (by rw [HLN.out]; omega) wr
            have hx1 := HI.out (i + 1) (by rw [HLN.out]; omega) wr
            simp only [Int.natCast_add, Int.cast_ofNat_Int] at hx1
            have h1 := hl i
            have h2 := hl (i + 1)
            have HUD := Lib.hid (unh_drop (l := l) (j := i) (by rw [HLN.out]; omega))
            have HNX : Hid (∀ v' W' b, Own W' w.heap.size v' (pre ++ [b]) → b < 256 → Below w.heap.size w W' → bytL l = (unhL (l.drop (i + 2))).map ((pre ++ [b]) ++ ·) → ByR w l v' (.int .i64 ((i : Int) + 2)) W') := Lib.hid (fun v' W' b h1 h2 h3 h4 => ⟨i + 2, pre ++ [b], _, rfl, by simp, by omega, by rw [HLN.out]; omega, by simp; omega, h1, fun x hx => by
              rcases List.mem_append.1 hx with hx | hx
              · exact HPB.out x hx
              · rw [List.mem_singleton] at hx; omega, h3, h4⟩)
            have hpre : pre.length < 1000000000 := by omega
            have hB := HB.out.size
            generalize l.getD i 0 = x at *
            generalize l.getD (i + 1) 0 = y at *
            go_wp2_with fail
            refine (HDG.out x h1 _).mono ?_
            rintro e W1 ⟨rfl, rfl⟩
            go_wp2_with fail
            with_reducible refine (HDG.out y h2 _).mono ?_
            rintro e W1 ⟨rfl, rfl⟩
            cases hdx : dgL x with
            | none =>
              have ex : dgI x = -1 := by unfold dgI; rw [hdx]
              have HF := Lib.hid (HBAD.out wr HB.out (by rw [HBL.out, HUD.out, hdx]; rfl))
              rw [ex]
              clear HNX HUD hdx
              go_wp2_with fail
              go_ret2
              exact HF.out
            | some d1 =>
              have ex : dgI x = (d1 : Int) := by unfold dgI; rw [hdx]
              have hd1 := dg_lt hdx
              rw [ex]
              cases hdy : dgL y with
              | none =>
                have ey : dgI y = -1 := by unfold dgI; rw [hdy]
                have HF := Lib.hid (HBAD.out wr HB.out (by rw [HBL.out, HUD.out, hdx, hdy]; rfl))
                rw [ey]
                clear HNX HUD hdx hdy
                go_wp2_with fail
                go_ret2
                exact HF.out
              | some d2 =>
                have ey : dgI y = (d2 : Int) := by unfold dgI; rw [hdy]
                have hd2 := dg_lt hdy
                have HRL : Hid (∀ v' W', Own W' w.heap.size v' (pre ++ [16 * d1 + d2]) → Below w.heap.size w W' → ByR w l v' (.int .i64 ((i : Int) + 2)) W') := Lib.hid (fun v' W' q1 q2 => HNX.out v' W' _ q1 (by omega) q2 (by
                  rw [HBL.out, HUD.out, hdx, hdy]
                  cases unhL (l.drop (i + 2)) <;> simp))
                have hw1 : IntKind.i64.wrap (16 * (d1 : Int)) = ((16 * d1 : Nat) : Int) := by rw [IntWalk.i64_in _ (by omega)]; omega
                have hw2 : IntKind.i64.wrap (((16 * d1 : Nat) : Int) + (d2 : Int)) = ((16 * d1 + d2 : Nat) : Int) := by rw [IntWalk.i64_in _ (by omega)]; omega
                have hw3 : IntKind.u8.wrap ((16 * d1 + d2 : Nat) : Int) = ((16 * d1 + d2 : Nat) : Int) := IntWalk.u8_in _ (by omega)
                have i1 : ¬ (d1 : Int) < 0 := by omega
                have i2 : ¬ (d2 : Int) < 0 := by omega
                rw [ey]
                clear HNX HUD hdx hdy HBAD ex ey
                generalize 16 * d1 + d2 = z at *
                generalize 16 * d1 = z1 at *
                go_wp2_with (at_builtin; refine wp_app _ rfl (.tmp 39) (.tmp 45) rfl w.heap.size v pre z z rfl HO.out rfl rfl hpre hB ?_; intro v' w2 hown2 hb2)
                have HF := Lib.hid (HRL.out v' w2 hown2 (HB.out.trans hb2))
                clear hown2 hb2 HRL
                go_roundw
                case rel => exact HF.out
                case measure => simp [intOf]; omega
          · obtain rfl : i = n := by omega
            have HF : Hid (∀ V, V = v → BytTo w l (.returned (.tuple #[V, .bool true])) wr) := Lib.hid (fun V hV => by
              have hb := HBL.out
              rw [List.drop_of_length_le (by rw [HLN.out]; omega)] at hb
              have hb' : bytL l = some pre := by rw [hb]; simp [unhL]
              subst hV
              refine ⟨_, _, rfl, HB.out, fun b e => ?_, fun e => by rw [hb'] at e; cases e⟩
              rw [hb'] at e; injection e with e; subst e
              refine ⟨rfl, HO.out, fun k => ?_⟩
              by_cases hk : k < pre.length
              · rw [List.getD_eq_getElem?_getD, List.getElem?_eq_getElem hk]; exact HPB.out _ (List.getElem_mem hk)
              · rw [List.getD_eq_getElem?_getD, List.getElem?_eq_none (by omega)]; exact Nat.zero_lt_succ _)
            go_wp2_with fail
            go_ret2
            exact HF.out _ rfl
end
section
open Go.RowKit Go
set_option linter.unusedVariables false
set_option linter.unusedSimpArgs false
set_option maxRecDepth 100000
set_option maxHeartbeats 1000000
def strsV (l : List (List Nat)) : List Value := l.map fun x => Value.string (str x)
/-- a row of strings of one's own -/
def OwnS (w : World) (B : Nat) (v : Value) (l : List (List Nat)) : Prop := w.ownsRow B 9 1 v l.length (strsV l)
theorem OwnS.nil (w : World) (B : Nat) : OwnS w B (.slice none 0 0) [] := World.ownsRow_nil _ _ _ _
theorem info_str31 : (Tryd.prog.info? 9).map (fun i => (i.zero, i.size, i.bytes)) = some (some (.string ⟨#[]⟩), 1, 16) := by kernel_rfl
/-- append of one string -/
theorem wp_appW {ops : Array Oper} {rest : List Oper} {o : Oper} {a : Act} {Q : Exit → Act → World → Prop} (W : World) (hgd : o.guard = none) (s x : Operand)
    (ho : o.op = .call { callee := .builtin .append, args := #[s, x], argTypes := #[42, 42] })
    (B : Nat) (v : Value) (l : List (List Nat)) (b : List Nat) (hs : a.eval s = v) (hown : OwnS W B v l)
    (hx : a.eval x = .slice (some ⟨W.heap.size, 0, none⟩) 1 1) (hn : l.length < 1000000000) (hB : B ≤ W.heap.size)
    (h : ∀ v' w', OwnS w' B v' (l ++ [b]) → Below B W w' → wpList Tryd.prog ops Q rest (a.put o.dst v') w') :
    wpList Tryd.prog ops Q (o :: rest) a (W.alloc (.cells #[.string (str b)] 9)) := by
  obtain ⟨i0, hi, hz0, hz1, hz2⟩ := info_parts info_str31
  refine wpList_append_own _ hgd s x 42 ho B 9 i0 (.string ⟨#[]⟩) 1 16 Tryd.underlying42 hi hz0 hz1 hz2 rfl (by decide) v l.length (strsV l) hs (World.ownsRow.alloc hown _) ⟨W.heap.size, 0, none⟩ 1 1
    [.string (str b)] hx rfl ?_ ?_ (by unfold maxLen; omega) (by omega) (by simp; omega) ?_
  · intro j u hj
    match j, hj with
    | 0, hj => simp at hj; subst hj; simp [Addr.add]
  · intro u hu; simp at hu; subst hu; rfl
  · intro v' w1 hown' hg _
    refine h v' w1 ?_ ?_
    · have e : strsV (l ++ [b]) = strsV l ++ [.string (str b)] := by simp [strsV]
      unfold OwnS
      rw [e, List.length_append]
      exact hown'
    · exact ((Below.refl B W).alloc hB _).grown hg (by simp; omega) (fun k hk => (World.ownsRow.lt hown k hk).1)
/-! the words, a sign at a time -/
theorem splW_cons (u : List Nat) (c : Nat) (s : List Nat) : splW u (c :: s) = if c = 32 ∨ c = 9 then (if u = [] then splW [] s else u :: splW [] s) else splW (u ++ [c]) s := by rw [splW]
theorem cut_at {s : List Nat} {j : Nat} (hj : j < s.length) : cutH (s.drop j) = if s.getD j 0 = 35 then [] else s.getD j 0 :: cutH (s.drop (j + 1)) := by
  rw [List.drop_eq_getElem_cons hj, List.getD_eq_getElem?_getD, List.getElem?_eq_getElem hj]
  unfold cutH
  rw [List.takeWhile_cons]
  by_cases h : s[j] = 35 <;> simp [h]
end
section
open Go.RowKit Go
set_option linter.unusedVariables false
set_option linter.unusedSimpArgs false
set_option maxRecDepth 100000
set_option maxHeartbeats 1000000
theorem sub_at {l : List Nat} {j : Nat} (hj : j < l.length) (w : World) : (Instr.slice 9 (.string (str l)) (some (.int .i64 (j : Int))) (some (.int .i64 ((j : Int) + 1))) none).run Tryd.prog w = .ok (.string (str [l.getD j 0])) w := by
  have e : (str l).extract j (j + 1) = str [l.getD j 0] := by
    apply ByteArray.ext
    apply Array.ext'
    have h : ∀ l : List Nat, (str l).data.toList = (l.map fun n : Nat => (n : Int)).map fun n => UInt8.ofNat n.toNat := fun l => strOfNums_data _
    rw [ByteArray.data_extract, Array.toList_extract, h, h, List.getD_eq_getElem?_getD, List.getElem?_eq_getElem hj]
    simp only [List.extract, Nat.add_sub_cancel_left, ← List.map_drop, ← List.map_take]
    rw [List.drop_eq_getElem_cons hj]; rfl
  rw [run_slice_string_if w 9 (str l) .i64 .i64 (j : Int) ((j : Int) + 1) Tryd.underlying9, if_pos ⟨by omega, by rw [str_size]; omega⟩, if_pos ⟨by omega, by omega⟩]
  rw [show ((j : Int) + 1).toNat = j + 1 by omega, Int.toNat_natCast, e]
def WoTo (w : World) (s : List Nat) (e : Ending) (w' : World) : Prop := ∃ v, e = .returned v ∧ OwnS w' w.heap.size v (wordsL s) ∧ Below w.heap.size w w'
def WoR (w : World) (s : List Nat) (lv wv iv : Value) (wr : World) : Prop := ∃ (i : Nat) (ws : List (List Nat)) (u : List Nat) (v : Value), v = lv ∧ wv = .string (str u) ∧ iv = .int .i64 (i : Int) ∧ i ≤ s.length ∧ ws.length ≤ i ∧ u.length ≤ i ∧ (∀ k, u.getD k 0 < 256) ∧ OwnS wr w.heap.size v ws ∧ Below w.heap.size w wr ∧ wordsL s = ws ++ splW u (cutH (s.drop i))
theorem emp_str {u : List Nat} (hu : ∀ k, u.getD k 0 < 256) : ((str u).toList == ([] : List UInt8)) = decide (u = []) := by
  have := str_toList hu (m := []) (by simp)
  rw [← this, show (str []).toList = ([] : List UInt8) by rw [toList_data]; rfl]
theorem byte_snoc {u : List Nat} (hu : ∀ k, u.getD k 0 < 256) {c : Nat} (hc : c < 256) (k : Nat) : (u ++ [c]).getD k 0 < 256 := by
  have h : ∀ x ∈ u ++ [c], x < 256 := by
    intro x hx
    rcases List.mem_append.1 hx with hx | hx
    · obtain ⟨k, hk, rfl⟩ := List.mem_iff_getElem.1 hx
      have := hu k
      rwa [List.getD_eq_getElem?_getD, List.getElem?_eq_getElem hk] at this
    · rw [List.mem_singleton] at hx; omega
  by_cases hk : k < (u ++ [c]).length
  · rw [List.getD_eq_getElem?_getD, List.getElem?_eq_getElem hk]; exact h _ (List.getElem_mem hk)
  · rw [List.getD_eq_getElem?_getD, List.getElem?_eq_none (by omega)]; exact Nat.zero_lt_succ _
theorem words_any (l : List Nat) (hl : ∀ i, l.getD i 0 < 256) (hn : l.length ≤ 1000000) (w : World) :
    Calls Tryd.prog 32 #[.string (str l)] w (WoTo w l) := by
  have HI := Lib.hid (fun j (h : j < l.length) => idx_at hl h)
  have HS := Lib.hid (fun j (h : j < l.length) => sub_at h)
  have hsz := str_size l
  have HB0 := Lib.hid (Below.refl w.heap.size w)
  have HR : Hid (WoR w l (.slice none 0 0) (.string ⟨#[]⟩) (.int .i64 0) w) := Lib.hid ⟨0, [], [], _, rfl, by rw [show str [] = (⟨#[]⟩ : ByteArray) from by kernel_rfl], rfl, Nat.zero_le _, Nat.le_refl _, Nat.le_refl _, fun k => by simp, OwnS.nil _ _, HB0.out, rfl⟩
  obtain ⟨n, hnn⟩ : ∃ n, l.length = n := ⟨_, rfl⟩
  have HLN := Lib.hid hnn
  rw [hnn] at hsz hn
  clear hnn
  have HE0 : Hid (str ([] : List Nat) = ⟨#[]⟩) := Lib.hid (by kernel_rfl)
  generalize hS : str l = S at *
  clear hS
  go_enter Tryd.func32, Tryd.ntmps32
  go_wp2_with fail
  go_loopw [3, 4, 5] (fun lv wv iv wr => WoR w l lv wv iv wr) (fun _ _ iv _ => ((n : Int) - intOf iv).toNat)
  case atStart => exact HR.out
  case round =>
    clear HR
    obtain ⟨i, ws, u, v, rfl, rfl, rfl, hi, hwl, hul, hub, ho, hb, hbl⟩ := hrel
    rw [HLN.out] at hi
    have HO := Lib.hid ho
    have HB := Lib.hid hb
    have HU := Lib.hid hub
    have HBL := Lib.hid hbl
    have hem := emp_str hub
    have hws : ws.length < 1000000000 := by omega
    have hB := HB.out.size
    -- the end: the last word is appended, if there is one
    have HEND : Hid (∀ W v', OwnS W w.heap.size v' (ws ++ splW u []) → Below w.heap.size w W → wordsL l = ws ++ splW u [] → WoTo w l (.returned v') W) := Lib.hid (fun W v' h1 h2 h3 => ⟨_, rfl, by rw [h3]; exact h1, h2⟩)
    have hspl : splW u [] = if u = [] then [] else [u] := by rw [splW]
    by_cases hgo : i < n ∧ l.getD i 0 ≠ 35
    · obtain ⟨hlt, h35⟩ := hgo
      have hix := HI.out i (by rw [HLN.out]; exact hlt) wr
      have hsb := HS.out i (by rw [HLN.out]; exact hlt) wr
      have hx := hl i
      have HC := Lib.hid (cut_at (s := l) (j := i) (by rw [HLN.out]; exact hlt))
      have HNX : Hid (∀ v' W' ws' u', OwnS W' w.heap.size v' ws' → ws'.length ≤ i + 1 → u'.length ≤ i + 1 → (∀ k, u'.getD k 0 < 256) → Below w.heap.size w W' → wordsL l = ws' ++ splW u' (cutH (l.drop (i + 1))) → WoR w l v' (.string (str u')) (.int .i64 ((i : Int) + 1)) W') := Lib.hid (fun v' W' ws' u' h1 h2 h3 h4 h5 h6 => ⟨i + 1, ws', u', v', rfl, rfl, by simp, by rw [HLN.out]; omega, h2, h3, h4, h1, h5, h6⟩)
      rw [if_neg h35] at HC
      have HBS := HBL
      rw [HC.out, splW_cons] at HBS
      generalize l.getD i 0 = x at *
      have i35 : ¬ (x : Int) = 35 := by omega
      clear HEND hspl h35 HC HBL
      by_cases hbk : x = 32 ∨ x = 9
      · rw [if_pos hbk] at HBS
        by_cases hu : u = []
        · rw [if_pos hu] at HBS
          have hem2 : ((str u).toList == ([] : List UInt8)) = true := by rw [hem, decide_eq_true_eq]; exact hu
          have HQ := Lib.hid (HNX.out v wr ws [] HO.out (by omega) (by simp) (fun k => by simp) HB.out HBS.out)
          rw [HE0.out] at HQ
          clear hem hu HNX HBS
          generalize str u = U at *
          rcases hbk with rfl | rfl
          · go_wp2_with fail
            go_roundw
            case rel => exact HQ.out
            case measure => simp [intOf]; omega
          · go_wp2_with fail
            go_roundw
            case rel => exact HQ.out
            case measure => simp [intOf]; omega
        · rw [if_neg hu] at HBS
          have hem2 : ((str u).toList == ([] : List UInt8)) = false := by rw [hem, decide_eq_false_iff_not]; exact hu
          have HQ : Hid (∀ v' W', OwnS W' w.heap.size v' (ws ++ [u]) → Below w.heap.size wr W' → WoR w l v' (.string (str [])) (.int .i64 ((i : Int) + 1)) W') := Lib.hid (fun v' W' h1 h2 => HNX.out v' W' (ws ++ [u]) [] h1 (by simp; omega) (by simp) (fun k => by simp) (HB.out.trans h2) (by rw [HBS.out]; simp))
          rw [HE0.out] at HQ
          clear hem hu HNX HBS
          rcases hbk with rfl | rfl
          · go_wp2_with (at_builtin; refine wp_appW _ rfl (.tmp 37) (.tmp 39) rfl w.heap.size v ws u rfl HO.out rfl hws hB ?_; intro v' w2 hown2 hb2)
            have HF := Lib.hid (HQ.out _ _ hown2 hb2)
            clear hown2 hb2 HQ
            go_roundw
            case rel => exact HF.out
            case measure => simp [intOf]; omega
          · go_wp2_with (at_builtin; refine wp_appW _ rfl (.tmp 37) (.tmp 39) rfl w.heap.size v ws u rfl HO.out rfl hws hB ?_; intro v' w2 hown2 hb2)
            have HF := Lib.hid (HQ.out _ _ hown2 hb2)
            clear hown2 hb2 HQ
            go_roundw
            case rel => exact HF.out
            case measure => simp [intOf]; omega
      · rw [if_neg hbk] at HBS
        have HQ := Lib.hid (HNX.out v wr ws (u ++ [x]) HO.out (by omega) (by simp; omega) (byte_snoc HU.out hx) HB.out HBS.out)
        rw [← str_app] at HQ
        have hsz2 : (str u).size + (str [x]).size ≤ 9223372036854775807 := by rw [str_size, str_size]; simp; omega
        have i32 : ¬ (x : Int) = 32 := by omega
        have i9 : ¬ (x : Int) = 9 := by omega
        have b32 : ((x : Int) != 32) = true := by rw [bne_iff_ne]; exact i32
        have b9 : ((x : Int) != 9) = true := by rw [bne_iff_ne]; exact i9
        have b3 : ((x : Int) != 32 && (x : Int) != 9) = true := by rw [b32, b9]; rfl
        clear hem HNX HBS hbk
        generalize str u = U at *
        generalize str [x] = X at *
        go_wp2_with fail
        go_roundw
        case rel => exact HQ.out
        case measure => simp [intOf]; omega
    · have HBE : Hid (wordsL l = ws ++ splW u []) := Lib.hid (by
        rw [HBL.out]
        by_cases hlt : i < n
        · have h35 : l.getD i 0 = 35 := by by_cases h : l.getD i 0 = 35; exact h; exact absurd ⟨hlt, h⟩ hgo
          rw [cut_at (s := l) (j := i) (by rw [HLN.out]; exact hlt), if_pos h35]
        · rw [List.drop_of_length_le (by rw [HLN.out]; omega)]; rfl)
      by_cases hu : u = []
      · have hem2 : ((str u).toList == ([] : List UInt8)) = true := by rw [hem, decide_eq_true_eq]; exact hu
        have HF := Lib.hid (HEND.out wr v (by rw [hspl, if_pos hu, List.append_nil]; exact HO.out) HB.out HBE.out)
        clear hem hspl hu HEND HBE HBL
        generalize str u = U at *
        by_cases hlt : i < n
        · have h35 : l.getD i 0 = 35 := by by_cases h : l.getD i 0 = 35; exact h; exact absurd ⟨hlt, h⟩ hgo
          have hix := HI.out i (by rw [HLN.out]; exact hlt) wr
          rw [h35] at hix
          clear hgo h35
          go_wp2_with fail
          go_ret
          exact HF.out
        · obtain rfl : i = n := by omega
          clear hgo
          go_wp2_with fail
          go_ret
          exact HF.out
      · have hem2 : ((str u).toList == ([] : List UInt8)) = false := by rw [hem, decide_eq_false_iff_not]; exact hu
        have HQ : Hid (∀ v' W', OwnS W' w.heap.size v' (ws ++ [u]) → Below w.heap.size wr W' → WoTo w l (.returned v') W') := Lib.hid (fun v' W' h1 h2 => HEND.out W' v' (by rw [hspl, if_neg hu]; exact h1) (HB.out.trans h2) HBE.out)
        clear hem hspl hu HEND HBE HBL
        by_cases hlt : i < n
        · have h35 : l.getD i 0 = 35 := by by_cases h : l.getD i 0 = 35; exact h; exact absurd ⟨hlt, h⟩ hgo
          have hix := HI.out i (by rw [HLN.out]; exact hlt) wr
          rw [h35] at hix
          clear hgo h35
          go_wp2_with (at_builtin; refine wp_appW _ rfl (.tmp 43) (.tmp 45) rfl w.heap.size v ws u rfl HO.out rfl hws hB ?_; intro v' w2 hown2 hb2)
          have HF := Lib.hid (HQ.out _ _ hown2 hb2)
          go_ret
          exact HF.out
        · obtain rfl : i = n := by omega
          clear hgo
          go_wp2_with (at_builtin; refine wp_appW _ rfl (.tmp 43) (.tmp 45) rfl w.heap.size v ws u rfl HO.out rfl hws hB ?_; intro v' w2 hown2 hb2)
          have HF := Lib.hid (HQ.out _ _ hown2 hb2)
          go_ret
          exact HF.out
end
end Go.Proofs.YtcaogiaoabdkdaaDoor
