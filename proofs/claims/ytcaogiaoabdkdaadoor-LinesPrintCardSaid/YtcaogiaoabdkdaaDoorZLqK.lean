/-
  Package lines: read.
-/
import Derived.Test.YtcaogiaoabdkdaaDoorZLqK0
import Derived.Test.YtcaogiaoabdkdaaDoorZScJ
namespace Go.Proofs.YtcaogiaoabdkdaaDoor
open Go.RowKit Go Go.Shelf Go.Lib
set_option linter.unusedVariables false
set_option linter.unusedSimpArgs false
set_option maxRecDepth 1000000
set_option maxHeartbeats 1000000
theorem spl_ne (s : List Nat) : ∀ u : List Nat, ∀ x ∈ splW u s, x ≠ [] := by
  induction s with
  | nil =>
    intro u x hx
    rw [splW] at hx
    split at hx
    · simp at hx
    · rw [List.mem_singleton] at hx; subst hx; assumption
  | cons a s ih =>
    intro u x hx
    rw [splW] at hx
    split at hx
    · split at hx
      · exact ih [] x hx
      · rcases List.mem_cons.1 hx with rfl | hx
        · assumption
        · exact ih [] x hx
    · exact ih (u ++ [a]) x hx
theorem WdB.byte {W : World} {g : Nat} {ws : List (List Nat)} (h : WdB W g ws) : ∀ x ∈ ws, (∀ c ∈ x, c < 256) ∧ x.length ≤ 1000000 ∧ x ≠ [] := by
  obtain ⟨u, _, _, hm, hn, rfl⟩ := h
  intro x hx
  refine ⟨spl_mem (Q := fun c => c < 256) u [] (fun c hc => by simp at hc) hm x hx, ?_, spl_ne u [] x hx⟩
  have := spl_len u [] x hx
  simp at this; omega
theorem WdB.head {W : World} {g : Nat} {ws : List (List Nat)} (h : WdB W g ws) : (∀ i, (ws.headD []).getD i 0 < 256) ∧ (ws.headD []).length ≤ 1000000 := by
  cases ws with
  | nil => exact ⟨fun i => by simp, by simp⟩
  | cons x r =>
    obtain ⟨h1, h2, _⟩ := h.byte x (by simp)
    exact ⟨getD_lt256 h1, h2⟩
theorem WdB.turn {W W' : World} {g : Nat} {ws : List (List Nat)} {S : Nat → Prop} (h : WdB W g ws) (ht : Turns S W W') (hs : ¬ S g) : WdB W' g ws := by
  obtain ⟨u, hx, r⟩ := h
  exact ⟨u, (ht.block g (blk_lt hx) hs).trans hx, r⟩
theorem WdB.lt {W : World} {g : Nat} {ws : List (List Nat)} (h : WdB W g ws) : g < W.heap.size := by
  obtain ⟨u, hx, _⟩ := h
  exact blk_lt hx
theorem sgn_lt : ∀ c, sgnP c < 128 := by
  intro c
  unfold sgnP
  repeat' split
  all_goals omega
theorem has_byte (k : Nat) (i : Nat) : (hasL k).getD i 0 < 128 := by
  unfold hasL
  by_cases hi : i < ((ordL k).map sgnP).length
  · rw [List.getD_eq_getElem?_getD, List.getElem?_eq_getElem hi, List.getElem_map]; exact sgn_lt _
  · rw [List.getD_eq_getElem?_getD, List.getElem?_eq_none (by omega)]; exact Nat.zero_lt_succ _
theorem has_at {k j : Nat} (hj : j < (ordL k).length) : (hasL k).getD j 0 = sgnP ((ordL k).getD j 0) := by
  unfold hasL
  rw [List.getD_eq_getElem?_getD, List.getD_eq_getElem?_getD, List.getElem?_map, List.getElem?_eq_getElem hj]; rfl
theorem has_len (k : Nat) : (hasL k).length = (ordL k).length := by unfold hasL; simp
theorem ord_98 : ∀ kd, kd < 20 → ∀ j, j < (ordL kd).length → (ordL kd).getD j 0 = 98 → ∀ i, i < j → (ordL kd).getD i 0 ≠ 98 := by
  intro kd hk
  have h : ∀ kd, kd < 20 → ∀ j, j < 4 → j < (ordL kd).length → (ordL kd).getD j 0 = 98 → ∀ i, i < j → (ordL kd).getD i 0 ≠ 98 := by decide
  intro j hj
  exact h kd hk j (by have := ord_len kd hk; omega) hj
/-- what is nought yet where a letter is to be read -/
def FZ (a : Ac) (c : Nat) : Prop := (c = 119 → a.which = 0) ∧ (c = 107 → a.k = 0) ∧ (c = 110 → a.n = 0) ∧ (c = 97 → a.pos = 0) ∧ (c = 98 → a.b = []) ∧ (c = 115 → a.which = 0 ∧ a.yes = false)
theorem valP_map (w : List Nat) (F : Int → Ac) {b : Ac} (h : ((do let a ← valP w; pure (a : Int)) : Option Int).map F = some b) : ∃ n : Int, b = F n := by
  cases hv : valP w with
  | none => rw [hv] at h; cases h
  | some n => rw [hv] at h; exact ⟨_, (Option.some.inj h).symm⟩
theorem setP_keep {a b : Ac} {c : Nat} {w : List Nat} (h : setP a c w = some b) : b.kind = a.kind ∧ (c ≠ 98 → b.b = a.b) ∧ ((c = 119 ∨ c = 107 ∨ c = 110 ∨ c = 97 ∨ c = 98) → b.yes = a.yes) := by
  unfold setP at h
  by_cases c1 : c = 119
  · rw [if_pos c1] at h; obtain ⟨n, rfl⟩ := valP_map _ _ h; exact ⟨rfl, fun _ => rfl, fun _ => rfl⟩
  · rw [if_neg c1] at h
    by_cases c2 : c = 107
    · rw [if_pos c2] at h; obtain ⟨n, rfl⟩ := valP_map _ _ h; exact ⟨rfl, fun _ => rfl, fun _ => rfl⟩
    · rw [if_neg c2] at h
      by_cases c3 : c = 110
      · rw [if_pos c3] at h; obtain ⟨n, rfl⟩ := valP_map _ _ h; exact ⟨rfl, fun _ => rfl, fun _ => rfl⟩
      · rw [if_neg c3] at h
        by_cases c4 : c = 97
        · rw [if_pos c4] at h; obtain ⟨n, rfl⟩ := valP_map _ _ h; exact ⟨rfl, fun _ => rfl, fun _ => rfl⟩
        · rw [if_neg c4] at h
          by_cases c5 : c = 98
          · rw [if_pos c5] at h
            cases hv : bytL w with
            | none => rw [hv] at h; cases h
            | some n => rw [hv] at h; have h2 := Option.some.inj h; rw [← h2]; exact ⟨rfl, fun e => absurd c5 e, fun _ => rfl⟩
          · rw [if_neg c5] at h
            by_cases c6 : c = 111
            · rw [if_pos c6] at h
              split at h
              · have h2 := Option.some.inj h; rw [← h2]; exact ⟨rfl, fun _ => rfl, fun e => by omega⟩
              · split at h
                · have h2 := Option.some.inj h; rw [← h2]; exact ⟨rfl, fun _ => rfl, fun e => by omega⟩
                · cases h
            · rw [if_neg c6] at h
              split at h
              · have h2 := Option.some.inj h; rw [← h2]; exact ⟨rfl, fun _ => rfl, fun e => by omega⟩
              · obtain ⟨n, rfl⟩ := valP_map _ _ h; exact ⟨rfl, fun _ => rfl, fun e => by omega⟩
theorem setP_FZ {a b : Ac} {c d : Nat} {w : List Nat} (h : setP a c w = some b) (hd : fldI d ≠ fldI c) (hc : d = 115 → c = 107) (hz : FZ a d) : FZ b d := by
  have hf := setP_fld h hd
  obtain ⟨_, k2, k3⟩ := setP_keep h
  obtain ⟨z1, z2, z3, z4, z5, z6⟩ := hz
  refine ⟨fun e => ?_, fun e => ?_, fun e => ?_, fun e => ?_, fun e => ?_, fun e => ?_⟩
  · subst e; have := z1 rfl; simp [fldV] at hf; rw [hf, this]
  · subst e; have := z2 rfl; simp [fldV] at hf; rw [hf, this]
  · subst e; have := z3 rfl; simp [fldV] at hf; rw [hf, this]
  · subst e; have := z4 rfl; simp [fldV] at hf; rw [hf, this]
  · subst e; rw [k2 (fun e => by subst e; exact hd rfl)]; exact z5 rfl
  · have hc7 := hc e
    subst e
    have := z6 rfl
    simp [fldV] at hf
    exact ⟨by rw [hf, this.1], by rw [k3 (by omega)]; exact this.2⟩
theorem ord_F1 : ∀ kd, kd < 20 → ∀ j, j < 4 → j < (ordL kd).length → ∀ i, i < j → fldI ((ordL kd).getD j 0) ≠ fldI ((ordL kd).getD i 0) := by decide
theorem ord_F2 : ∀ kd, kd < 20 → ∀ j, j < 4 → j < (ordL kd).length → (ordL kd).getD j 0 = 115 → ∀ i, i < j → (ordL kd).getD i 0 = 107 := by decide
theorem ord_FZ (kd : Nat) (hk : kd < 20) (j i : Nat) (hij : i < j) (hj : j < (ordL kd).length) : fldI ((ordL kd).getD j 0) ≠ fldI ((ordL kd).getD i 0) ∧ ((ordL kd).getD j 0 = 115 → (ordL kd).getD i 0 = 107) := by
  have h4 : j < 4 := by have := ord_len kd hk; omega
  exact ⟨ord_F1 kd hk j h4 hj i hij, fun e => ord_F2 kd hk j h4 hj e i hij⟩
theorem kA_FZ (k : Int) (c : Nat) : FZ (kA k) c := ⟨fun _ => rfl, fun _ => rfl, fun _ => rfl, fun _ => rfl, fun _ => rfl, fun _ => ⟨rfl, rfl⟩⟩
theorem ho_keep9 {W W' : World} {B q j : Nat} {v : Value} {l : List Nat} {s : ByteArray} (h : Own W B v l) (ht : Turns (fun k => k = q) W W') (hi : W.heap[q]? = some (.stringIter s j)) : Own W' B v l :=
  h.keep fun g hg => ht.block g (h.lt hg).2 (fun e => by
    obtain ⟨cs, hcs⟩ := own_rows h g hg
    rw [e, hi] at hcs
    cases hcs)
theorem Turns.of_row9 (W : World) (b : Nat) (cs : Array Value) : Turns (fun k => k = b) W (W.setRow b cs) :=
  ⟨rfl, rfl, rfl, by simp, fun k _ hn => setRow_other W b k cs hn⟩
def RdTo (w : World) (g : Nat) (ws : List (List Nat)) (e : Ending) (w' : World) : Prop :=
  ∃ (a : Ac) (A : Option Addr) (c : Nat) (ok : Bool), e = .returned (.tuple #[.agg #[.int .i64 a.kind, .bool a.yes, .int .i64 a.which, .int .i64 a.k, .int .i64 a.n, .int .i64 a.pos, .slice A a.b.length c], .bool ok]) ∧ Turns (fun k => k = g) w w' ∧ Own w' w.heap.size (.slice A a.b.length c) a.b ∧ (∀ i, a.b.getD i 0 < 256) ∧ actW ws = if ok = true then some a else none
/-- while an act's words are read: b2, b6 and bi are the result's, the act's and the iterator's blocks -/
def ReR (w : World) (g k : Nat) (ws r : List (List Nat)) (b6 bi : Nat) (S : ByteArray) (ok0 : Bool) (okv : Value) (wr : World) : Prop :=
  ∃ (j : Nat) (a : Ac) (A : Option Addr) (c : Nat) (ok : Bool) (wx : List (List Nat)), okv = .bool ok ∧ j ≤ (ordL k).length ∧ wr.heap[bi]? = some (.stringIter S j) ∧ wr.heap[b6]? = some (.cells #[.int .i64 a.kind, .bool a.yes, .int .i64 a.which, .int .i64 a.k, .int .i64 a.n, .int .i64 a.pos, .slice A a.b.length c] 30 (0, 0)) ∧ wr.heap[w.heap.size]? = some (.cells #[.int .i64 0, .bool false, .int .i64 0, .int .i64 0, .int .i64 0, .int .i64 0, .slice none 0 0] 30 (0, 0)) ∧ WdB wr g wx ∧ Own wr (b6 + 2) (.slice A a.b.length c) a.b ∧ (∀ i, a.b.getD i 0 < 256) ∧ Turns (fun k => k = g) w wr ∧ bi < wr.heap.size ∧
  (ok = true → ok0 = true ∧ wx = r.drop j ∧ j ≤ r.length ∧ setsP (kA k) (((ordL k).take j).zip (r.take j)) = some a ∧ (∀ i, j ≤ i → i < (ordL k).length → FZ a ((ordL k).getD i 0)) ∧ ((∀ i, i < j → (ordL k).getD i 0 ≠ 98) → A = none ∧ c = 0)) ∧ (ok = false → actW ws = none)
theorem take31_any (b cA B : Nat) (A : Option Addr) (a : Ac) (c : Nat) (wd : List Nat) (hm : ∀ i, wd.getD i 0 < 256) (hn : wd.length ≤ 1000000) (w : World) (hx : w.heap[b]? = some (.cells #[.int .i64 a.kind, .bool a.yes, .int .i64 a.which, .int .i64 a.k, .int .i64 a.n, .int .i64 a.pos, .slice A a.b.length cA] 30 (0, 0))) (ho : Own w B (.slice A a.b.length cA) a.b) (hby : ∀ i, a.b.getD i 0 < 256) (hbB : b < B) (hB : B ≤ w.heap.size)
    (hc : c = 119 ∨ c = 107 ∨ c = 110 ∨ c = 97 ∨ c = 98 ∨ c = 111 ∨ c = 115) (hz : FZ a c) (hA : c = 98 → A = none ∧ cA = 0) :
    Calls Tryd.prog 46 #[.pointer (some ⟨b, 0, none⟩), .int .i32 ((sgnP c : Nat) : Int), .string (str wd)] w (TkTo w b B a A cA c wd) := by
  obtain ⟨z1, z2, z3, z4, z5, z6⟩ := hz
  rcases hc with rfl | rfl | rfl | rfl | rfl | rfl | rfl
  · exact take_which b cA B A a wd hm w hx ho hby hbB hB (z1 rfl)
  · exact take_k b cA B A a wd hm w hx ho hby hbB hB (z2 rfl)
  · exact take_n b cA B A a wd hm w hx ho hby hbB hB (z3 rfl)
  · exact take_pos b cA B A a wd hm w hx ho hby hbB hB (z4 rfl)
  · exact take_b b cA B A a wd hm hn w hx hbB hB ⟨(hA rfl).1, z5 rfl, (hA rfl).2⟩
  · exact take_o b cA B A a wd hm w hx ho hby hbB hB
  · exact take_s b cA B A a wd hm w hx ho hby hbB hB (z6 rfl).1 (z6 rfl).2
theorem read31_any (g : Nat) (ws : List (List Nat)) (w : World) (hW : WdB w g ws) (hK : Kn w) (hg : 0 < g) :
    Calls Tryd.prog 29 #[(.func (Fn.func 30) #[.pointer (some ⟨g, 0, none⟩)] #[])] w (RdTo w g ws) := by
  have HWD := Lib.hid hW
  have hglt := hW.lt
  have HG := Lib.hid hglt
  have HB0 : Hid (Below w.heap.size w (w.alloc (.cells #[.int .i64 0, .bool false, .int .i64 0, .int .i64 0, .int .i64 0, .int .i64 0, .slice none 0 0] 30))) := Lib.hid ((Below.refl _ _).alloc (Nat.le_refl _) _)
  have HX2 : Hid ((w.alloc (.cells #[.int .i64 0, .bool false, .int .i64 0, .int .i64 0, .int .i64 0, .int .i64 0, .slice none 0 0] 30)).heap[w.heap.size]? = some (.cells #[.int .i64 0, .bool false, .int .i64 0, .int .i64 0, .int .i64 0, .int .i64 0, .slice none 0 0] 30 (0, 0))) := Lib.hid (heap_alloc_new w _)
  have HSZ : Hid ((w.alloc (.cells #[.int .i64 0, .bool false, .int .i64 0, .int .i64 0, .int .i64 0, .int .i64 0, .slice none 0 0] 30)).heap.size = w.heap.size + 1) := Lib.hid (by simp)
  have HKN := Lib.hid hK
  obtain ⟨w1, hW1⟩ : ∃ w1, w1 = (w.alloc (.cells #[.int .i64 0, .bool false, .int .i64 0, .int .i64 0, .int .i64 0, .int .i64 0, .slice none 0 0] 30)) := ⟨_, rfl⟩
  rw [← hW1] at HB0 HX2 HSZ
  have HT1 : Hid (Turns (fun k => k = g) w w1) := Lib.hid (Turns.of_below HB0.out)
  have HWD1 : Hid (WdB w1 g ws) := Lib.hid (HWD.out.turn (Turns.of_below (S := fun _ => False) HB0.out) (fun h => h))
  have HK1 : Hid (Kn w1) := Lib.hid (HKN.out.below HB0.out)
  have HNX := Lib.hid (next31_any g ws w1 HWD1.out)
  obtain ⟨hhb, hhl⟩ := hW.head
  obtain ⟨wd0, hwd0⟩ : ∃ x, x = ws.headD [] := ⟨_, rfl⟩
  have HNX : Hid (Calls Tryd.prog 30 #[.pointer (some ⟨g, 0, none⟩)] w1 fun e w' => e = .returned (.string (str wd0)) ∧ WdB w' g ws.tail ∧ Turns (fun k => k = g) w1 w') := Lib.hid (by rw [hwd0]; exact HNX.out)
  rw [← hwd0] at hhb hhl
  have HHB := Lib.hid hhb
  have HWX := Lib.hid hwd0
  clear hwd0
  have HW1 := Lib.hid hW1
  clear hW hK hglt hhb hW1
  go_enter Tryd.func29, Tryd.ntmps29
  go_wp2_with fail
  rw [← HW1.out]
  refine HNX.out.mono ?_
  rintro e w2 ⟨rfl, hwd2, ht2⟩
  have HWD2 := Lib.hid hwd2
  have HT2 : Hid (Turns (fun k => k = g) w w2) := Lib.hid (HT1.out.trans ht2 (fun j _ h => h))
  have HK2 : Hid (Kn w2) := Lib.hid (HK1.out.turn ht2 (fun e => by omega))
  have HX22 : Hid (w2.heap[w.heap.size]? = some (.cells #[.int .i64 0, .bool false, .int .i64 0, .int .i64 0, .int .i64 0, .int .i64 0, .slice none 0 0] 30 (0, 0))) := Lib.hid ((ht2.block _ (blk_lt HX2.out) (fun e => by have := HG.out; omega)).trans HX2.out)
  clear hwd2 ht2
  have HND := Lib.hid (named_any wd0 HHB.out w2 HK2.out)
  go_wp2_with fail
  refine HND.out.mono ?_
  rintro e w3 ⟨hb3, hnd⟩
  have HWD3 : Hid (WdB w3 g ws.tail) := Lib.hid (HWD2.out.turn (Turns.of_below (S := fun _ => False) hb3) (fun h => h))
  have HT3 : Hid (Turns (fun k => k = g) w w3) := Lib.hid (HT2.out.trans (Turns.of_below (S := fun k => k = g) hb3) (fun j _ h => h))
  have HK3 : Hid (Kn w3) := Lib.hid (HK2.out.below hb3)
  have HX23 : Hid (w3.heap[w.heap.size]? = some (.cells #[.int .i64 0, .bool false, .int .i64 0, .int .i64 0, .int .i64 0, .int .i64 0, .slice none 0 0] 30 (0, 0))) := Lib.hid ((hb3.block _ (blk_lt HX22.out)).trans HX22.out)
  have HQ : Hid (∃ (k : Nat) (ok : Bool), k < 20 ∧ e = .returned (.tuple #[.int .i64 (k : Int), .bool ok]) ∧ (ok = true → kindW wd0 = some k ∧ ws ≠ []) ∧ (ok = false → actW ws = none ∧ k = 0)) := Lib.hid (by
    rcases hnd with ⟨k, hk, h1, h2⟩ | ⟨h1, h2⟩
    · refine ⟨k, true, hk, h2, fun _ => ⟨h1, fun e => ?_⟩, fun h => (by cases h)⟩
      rw [HWX.out, e, show kindW (([] : List (List Nat)).headD []) = none from by decide] at h1
      cases h1
    · refine ⟨0, false, by omega, h2, fun h => (by cases h), fun _ => ⟨?_, rfl⟩⟩
      cases ws with
      | nil => rfl
      | cons x r => rw [actW]; rw [HWX.out, show (x :: r).headD [] = x from rfl] at h1; rw [h1])
  obtain ⟨k, ok0, hk20, rfl, hq1, hq2⟩ := HQ.out
  have HQ1 := Lib.hid hq1
  have HQ2 := Lib.hid hq2
  clear hnd hb3 HQ hq1 hq2
  -- the act's block and the iterator's
  obtain ⟨b6, hb6⟩ : ∃ b6, b6 = w3.heap.size := ⟨_, rfl⟩
  have HB6 := Lib.hid hb6
  have HK4 : Hid (Below w3.heap.size w3 (w3.alloc (.cells #[.int .i64 (k : Int), .bool false, .int .i64 0, .int .i64 0, .int .i64 0, .int .i64 0, .slice none 0 0] 30))) := Lib.hid ((Below.refl _ _).alloc (Nat.le_refl _) _)
  have HX6 : Hid ((w3.alloc (.cells #[.int .i64 (k : Int), .bool false, .int .i64 0, .int .i64 0, .int .i64 0, .int .i64 0, .slice none 0 0] 30)).heap[w3.heap.size]? = some (.cells #[.int .i64 (k : Int), .bool false, .int .i64 0, .int .i64 0, .int .i64 0, .int .i64 0, .slice none 0 0] 30 (0, 0))) := Lib.hid (heap_alloc_new w3 _)
  have HSZ4 : Hid ((w3.alloc (.cells #[.int .i64 (k : Int), .bool false, .int .i64 0, .int .i64 0, .int .i64 0, .int .i64 0, .slice none 0 0] 30)).heap.size = w3.heap.size + 1) := Lib.hid (by simp)
  have hc4 : (w3.alloc (.cells #[.int .i64 (k : Int), .bool false, .int .i64 0, .int .i64 0, .int .i64 0, .int .i64 0, .slice none 0 0] 30)).cell? ⟨0, k * 2 + 1, none⟩ = some (.string (str (hasL k))) := by rw [Nat.mul_comm]; exact (HK3.out.below HK4.out).has hk20
  obtain ⟨w4, hW4⟩ : ∃ w4, w4 = (w3.alloc (.cells #[.int .i64 (k : Int), .bool false, .int .i64 0, .int .i64 0, .int .i64 0, .int .i64 0, .slice none 0 0] 30)) := ⟨_, rfl⟩
  rw [← hW4] at HK4 HX6 HSZ4 hc4
  have HW4 := Lib.hid hW4
  clear hb6 hW4
  go_upto_region 3 with (fail)
  rw [← HW4.out]
  go_wp2_with fail
  have HIT : Hid ((w4.iter (str (hasL k)) 0).heap[w4.heap.size]? = some (.stringIter (str (hasL k)) 0)) := Lib.hid (World.iter_heap w4 _ 0)
  have HBI : Hid (Below w4.heap.size w4 (w4.iter (str (hasL k)) 0)) := Lib.hid ((Below.refl _ _).alloc (Nat.le_refl _) _)
  have HSI : Hid ((w4.iter (str (hasL k)) 0).heap.size = w4.heap.size + 1) := Lib.hid (by unfold World.iter; simp)
  have HT4 : Hid (Turns (fun k => k = g) w w4) := Lib.hid (HT3.out.trans (Turns.of_below (S := fun k => k = g) HK4.out) (fun j _ h => h))
  have HB34 := Lib.hid (show w.heap.size < w3.heap.size from blk_lt HX23.out)
  have HST : Hid (ReR w g k ws ws.tail w3.heap.size w4.heap.size (str (hasL k)) ok0 (.bool ok0) (w4.iter (str (hasL k)) 0)) := Lib.hid ⟨0, kA k, none, 0, ok0, ws.tail, rfl, Nat.zero_le _, HIT.out, (HBI.out.block _ (blk_lt HX6.out)).trans HX6.out, (HBI.out.block _ (Nat.lt_of_lt_of_le (blk_lt HX23.out) HK4.out.size)).trans ((HK4.out.block _ (blk_lt HX23.out)).trans HX23.out), (HWD3.out.turn (Turns.of_below (S := fun _ => False) HK4.out) (fun h => h)).turn (Turns.of_below (S := fun _ => False) HBI.out) (fun h => h), Own.nil _ _, fun i => by simp [kA], HT4.out.trans (Turns.of_below (S := fun k => k = g) HBI.out) (fun j _ h => h), by rw [HSI.out]; omega,
    fun h => ⟨h, rfl, Nat.zero_le _, rfl, fun i _ _ => kA_FZ _ _, fun _ => ⟨rfl, rfl⟩⟩, fun h => (HQ2.out h).1⟩
  have HS2 := Lib.hid (str_size (hasL k))
  rw [has_len] at HS2
  have HNI : Hid (∀ j, j < (ordL k).length → ∀ W (hk : W.heap[w4.heap.size]? = some (.stringIter (str (hasL k)) j)) ty, (Instr.next (.pointer (some ⟨w4.heap.size, 0, none⟩)) true ty).run Tryd.prog W = .ok (.tuple #[.bool true, .int .i64 (j : Int), .int .i32 ((sgnP ((ordL k).getD j 0) : Nat) : Int)]) (W.iterAt w4.heap.size (str (hasL k)) (j + 1))) := Lib.hid (fun j h1 W hk ty => by
    have hlt : j < (str (hasL k)).size := by rw [str_size, has_len]; exact h1
    have hb := has_byte k
    have e := str_idx (fun i => Nat.lt_of_lt_of_le (hb i) (by omega)) (by rw [has_len]; exact h1) hlt
    have := run_next_ascii_at (P := Tryd.prog) W w4.heap.size (str (hasL k)) j ty hk hlt (by rw [e]; exact hb j)
    rw [e, has_at h1] at this
    exact this)
  have HNE : Hid (∀ W (hk : W.heap[w4.heap.size]? = some (.stringIter (str (hasL k)) (ordL k).length)) ty, (Instr.next (.pointer (some ⟨w4.heap.size, 0, none⟩)) true ty).run Tryd.prog W = .ok (.tuple #[.bool false]) W) := Lib.hid (fun W hk ty => run_next_end_at W w4.heap.size (str (hasL k)) (ordL k).length ty hk (by rw [str_size, has_len]; exact Nat.lt_irrefl _))
  have HOI := Lib.hid (ord_in k hk20)
  have HO8 := Lib.hid (ord_98 k hk20)
  have HOF := Lib.hid (ord_FZ k hk20)
  have HKW : Hid (ok0 = true → ∀ r, ws.tail = r → actW ws = if r.length = (ordL k).length then (match setsP (kA k) ((ordL k).zip r) with | some a => if mayA a then some a else none | none => none) else none) := Lib.hid (fun h r hr => by
    obtain ⟨h1, h2⟩ := HQ1.out h
    cases ws with
    | nil => exact absurd rfl h2
    | cons x r2 =>
      rw [HWX.out, show (x :: r2).headD [] = x from rfl] at h1
      rw [show (x :: r2).tail = r2 from rfl] at hr
      subst hr
      exact actW_P h1)
  have HWT : Hid (∀ x ∈ ws.tail, x ≠ []) := Lib.hid (fun x hx => (HWD3.out.byte x hx).2.2)
  have HBS : Hid (w4.heap.size = w3.heap.size + 1) := Lib.hid HSZ4.out
  obtain ⟨r, hr⟩ : ∃ r, ws.tail = r := ⟨_, rfl⟩
  rw [hr] at HST HWT
  have HKW := Lib.hid (fun h => HKW.out h r hr)
  obtain ⟨L, hL⟩ : ∃ L, (ordL k).length = L := ⟨_, rfl⟩
  have HLL := Lib.hid hL
  rw [hL] at HNE
  clear hr hL HX6 hc4 HNX
  generalize str (hasL k) = S at *
  generalize w4.iter S 0 = w5 at *
  go_loopw [5, 8] (fun okv _ wr => ReR w g k ws r w3.heap.size w4.heap.size S ok0 okv wr) (fun _ _ wr => L - iterPos wr w4.heap.size)
  case atStart => exact HST.out
  case round =>
    clear HST
    obtain ⟨j, a, A, cA, ok, wx, rfl, hj, hi, hx6, hx2, hwd, ho, hby, ht, hbl, hy, hn⟩ := hrel
    rw [HLL.out] at hj
    have HI := Lib.hid hi
    have HX6 := Lib.hid hx6
    have HX2 := Lib.hid hx2
    have HWX2 := Lib.hid hwd
    have HO := Lib.hid ho
    have HBY := Lib.hid hby
    have HT := Lib.hid ht
    have HBL := Lib.hid hbl
    have HY := Lib.hid hy
    have HN := Lib.hid hn
    clear hi hx6 hx2 hwd ho hby ht hbl hy hn
    by_cases hlt : j < L
    · have hnx := HNI.out j (by rw [HLL.out]; exact hlt) wr HI.out
      have HQ := Lib.hid (iterAt_heap wr w4.heap.size S j (j + 1) HI.out)
      have HTI : Hid (Turns (fun q => q = w4.heap.size) wr (wr.iterAt w4.heap.size S (j + 1))) := Lib.hid ⟨rfl, rfl, rfl, by rw [iterAt_size]; exact Nat.le_refl _, fun q _ hn => iterAt_other _ _ _ _ _ hn⟩
      have HSZI := Lib.hid (iterAt_size wr w4.heap.size S (j + 1))
      cases ok with
      | false =>
        have HF : Hid (ReR w g k ws r w3.heap.size w4.heap.size S ok0 (.bool false) (wr.iterAt w4.heap.size S (j + 1))) := Lib.hid ⟨j + 1, a, A, cA, false, wx, rfl, by rw [HLL.out]; omega, HQ.out, (iterAt_other _ _ _ _ _ (by have := HBS.out; omega)).trans HX6.out, (iterAt_other _ _ _ _ _ (by have := HBS.out; have := HB34.out; omega)).trans HX2.out, HWX2.out.turn HTI.out (by have := HG.out; have := HB34.out; have := HBS.out; omega), ho_keep9 HO.out HTI.out HI.out, HBY.out, HT.out.trans HTI.out (fun q hq e => by have := HBS.out; have := HB34.out; omega), by rw [HSZI.out]; exact HBL.out, fun h => (by cases h), HN.out⟩
        have HM : Hid (L - iterPos (wr.iterAt w4.heap.size S (j + 1)) w4.heap.size < L - iterPos wr w4.heap.size) := Lib.hid (by rw [iterPos_at HQ.out, iterPos_at HI.out]; omega)
        generalize sgnP ((ordL k).getD j 0) = sg at *
        go_wp2_with fail
        go_roundw
        case rel => exact HF.out
        case measure => exact HM.out
      | true =>
        obtain ⟨y0, y1, y2, y3, y4, y5⟩ := HY.out rfl
        have HY0 := Lib.hid y0
        have HY1 := Lib.hid y1
        have HY2 := Lib.hid y2
        have HY3 := Lib.hid y3
        have HY4 := Lib.hid y4
        have HY5 := Lib.hid y5
        have HKQ := Lib.hid (HKW.out y0)
        have HXI6 : Hid ((wr.iterAt w4.heap.size S (j + 1)).heap[w3.heap.size]? = some (.cells #[.int .i64 a.kind, .bool a.yes, .int .i64 a.which, .int .i64 a.k, .int .i64 a.n, .int .i64 a.pos, .slice A a.b.length cA] 30 (0, 0))) := Lib.hid ((iterAt_other _ _ _ _ _ (by have := HBS.out; omega)).trans HX6.out)
        have HXI2 : Hid ((wr.iterAt w4.heap.size S (j + 1)).heap[w.heap.size]? = some (.cells #[.int .i64 0, .bool false, .int .i64 0, .int .i64 0, .int .i64 0, .int .i64 0, .slice none 0 0] 30 (0, 0))) := Lib.hid ((iterAt_other _ _ _ _ _ (by have := HBS.out; have := HB34.out; omega)).trans HX2.out)
        have HWDI := Lib.hid (HWX2.out.turn HTI.out (by have := HG.out; have := HB34.out; have := HBS.out; omega))
        have HOI6 := Lib.hid (ho_keep9 HO.out HTI.out HI.out)
        have HTTI : Hid (Turns (fun k => k = g) w (wr.iterAt w4.heap.size S (j + 1))) := Lib.hid (HT.out.trans HTI.out (fun q hq e => by have := HBS.out; have := HB34.out; omega))
        have HBLI : Hid (w4.heap.size < (wr.iterAt w4.heap.size S (j + 1)).heap.size) := Lib.hid (by rw [HSZI.out]; exact HBL.out)
        have hc7 := HOI.out j (by rw [HLL.out]; exact hlt)
        have HJ : Hid (j < (ordL k).length) := Lib.hid (by rw [HLL.out]; exact hlt)
        obtain ⟨c, hcc⟩ : ∃ c, (ordL k).getD j 0 = c := ⟨_, rfl⟩
        have HCC := Lib.hid hcc
        rw [hcc] at hc7 hnx
        have HFZ := Lib.hid (y4 j (Nat.le_refl _) HJ.out)
        rw [hcc] at HFZ
        have HA98 : Hid (c = 98 → A = none ∧ cA = 0) := Lib.hid (fun e => y5 (HO8.out j HJ.out (by rw [HCC.out]; exact e)))
        obtain ⟨hwb, hwl⟩ := HWDI.out.head
        obtain ⟨wd1, hwd1⟩ : ∃ x, x = wx.headD [] := ⟨_, rfl⟩
        have HNX1 : Hid (Calls Tryd.prog 30 #[.pointer (some ⟨g, 0, none⟩)] (wr.iterAt w4.heap.size S (j + 1)) fun e w' => e = .returned (.string (str wd1)) ∧ WdB w' g wx.tail ∧ Turns (fun k => k = g) (wr.iterAt w4.heap.size S (j + 1)) w') := Lib.hid (by rw [hwd1]; exact next31_any g wx _ HWDI.out)
        rw [← hwd1] at hwb hwl
        have HWB := Lib.hid hwb
        have HW1D := Lib.hid hwd1
        have HTK : Hid (∀ W, W.heap[w3.heap.size]? = some (.cells #[.int .i64 a.kind, .bool a.yes, .int .i64 a.which, .int .i64 a.k, .int .i64 a.n, .int .i64 a.pos, .slice A a.b.length cA] 30 (0, 0)) → Own W (w3.heap.size + 2) (.slice A a.b.length cA) a.b → w3.heap.size + 2 ≤ W.heap.size → Calls Tryd.prog 46 #[.pointer (some ⟨w3.heap.size, 0, none⟩), .int .i32 ((sgnP c : Nat) : Int), .string (str wd1)] W (TkTo W w3.heap.size (w3.heap.size + 2) a A cA c wd1)) := Lib.hid (fun W h1 h2 h3 => take31_any w3.heap.size cA (w3.heap.size + 2) A a c wd1 HWB.out hwl W h1 h2 HBY.out (by omega) h3 hc7 HFZ.out HA98.out)
        clear y0 y1 y2 y3 y4 y5 hcc hwb hwd1 hc7 hwl
        generalize (sgnP c : Nat) = sg at *
        generalize hWI : wr.iterAt w4.heap.size S (j + 1) = wi at *
        generalize str wd1 = SW at *
        go_wp2_with fail
        refine HNX1.out.mono ?_
        rintro e w6 ⟨rfl, hwd6, ht6⟩
        have HWD6 := Lib.hid hwd6
        have hg3 := HG.out
        have hb3 := HB34.out
        have hb4 := HBS.out
        have HX66 := Lib.hid ((ht6.block _ (blk_lt HXI6.out) (fun e => by omega)).trans HXI6.out)
        have HX62 := Lib.hid ((ht6.block _ (blk_lt HXI2.out) (fun e => by omega)).trans HXI2.out)
        have HI6 := Lib.hid ((ht6.block _ HBLI.out (fun e => by omega)).trans HQ.out)
        have HO6 := Lib.hid (ho_turn HOI6.out ht6 (fun q e => by omega))
        have HT6 := Lib.hid (HTTI.out.trans ht6 (fun q _ h => h))
        have HBL6 : Hid (w4.heap.size < w6.heap.size) := Lib.hid (Nat.lt_of_lt_of_le HBLI.out ht6.size)
        have HTK6 := Lib.hid (HTK.out w6 HX66.out HO6.out (by have := HBL6.out; omega))
        clear hwd6 ht6 hg3 hb3 hb4 HTK
        go_wp2_with fail
        refine HTK6.out.mono ?_
        rintro e w7 ⟨a7, A7, c7, ok7, rfl, hx7, ho7, hby7, ht7, hset, hAA⟩
        have hg3 := HG.out
        have hb3 := HB34.out
        have hb4 := HBS.out
        have HF : Hid (ReR w g k ws r w3.heap.size w4.heap.size S ok0 (.bool ok7) w7) := Lib.hid ⟨j + 1, a7, A7, c7, ok7, wx.tail, rfl, HJ.out, (ht7.block _ HBL6.out (fun e => by omega)).trans HI6.out, hx7, (ht7.block _ (blk_lt HX62.out) (fun e => by omega)).trans HX62.out, HWD6.out.turn ht7 (fun e => by omega), ho7, hby7, HT6.out.trans ht7 (fun q hq e => by omega), Nat.lt_of_lt_of_le HBL6.out ht7.size, fun h => by
          subst h
          rw [if_pos rfl] at hset
          have hjr : j < r.length := by
            by_cases h : j < r.length
            · exact h
            · rw [HW1D.out, HY1.out, List.drop_of_length_le (by omega), show ([] : List (List Nat)).headD [] = [] from rfl, setP_nil] at hset
              cases hset
          have hwr : wd1 = r.getD j [] := by
            rw [HW1D.out, HY1.out, List.drop_eq_getElem_cons hjr, List.getD_eq_getElem?_getD, List.getElem?_eq_getElem hjr]; rfl
          refine ⟨HY0.out, ?_, hjr, ?_, fun i h1 h2 => ?_, fun h => ?_⟩
          · rw [HY1.out, List.tail_drop]
          · rw [setsP_snoc HJ.out hjr HY3.out, HCC.out, ← hwr, hset]
          · have hF := HOF.out i j (by omega) h2
            rw [HCC.out] at hF
            exact setP_FZ hset hF.1 hF.2 (HY4.out i (by omega) h2)
          · have h98 : c ≠ 98 := by have := h j (by omega); rwa [HCC.out] at this
            obtain ⟨e1, e2⟩ := hAA h98
            rw [e1, e2]
            exact HY5.out (fun i hi => h i (by omega)), fun h => by
          subst h
          rw [if_neg (by simp)] at hset
          rw [HKQ.out]
          split
          · rename_i hrl
            have hjr : j < r.length := by rw [hrl]; exact HJ.out
            have hwr : wd1 = r.getD j [] := by
              rw [HW1D.out, HY1.out, List.drop_eq_getElem_cons hjr, List.getD_eq_getElem?_getD, List.getElem?_eq_getElem hjr]; rfl
            rw [setsP_pre (j + 1) HJ.out hjr (by rw [setsP_snoc HJ.out hjr HY3.out, HCC.out, ← hwr, hset])]
          · rfl⟩
        have HM : Hid (L - iterPos w7 w4.heap.size < L - iterPos wr w4.heap.size) := Lib.hid (by rw [iterPos_at ((ht7.block _ HBL6.out (fun e => by omega)).trans HI6.out), iterPos_at HI.out]; omega)
        clear hx7 ho7 hby7 ht7 hset hAA hg3 hb3 hb4
        go_wp2_with fail
        go_roundw
        case rel => exact HF.out
        case measure => exact HM.out
    · obtain rfl : j = L := by omega
      have hnx := HNE.out wr HI.out
      have HBD : Hid (∀ W, W.heap[w.heap.size]? = some (.cells #[.int .i64 0, .bool false, .int .i64 0, .int .i64 0, .int .i64 0, .int .i64 0, .slice none 0 0] 30 (0, 0)) → Turns (fun k => k = g) w W → actW ws = none → RdTo w g ws (.returned (.tuple #[.agg #[.int .i64 0, .bool false, .int .i64 0, .int .i64 0, .int .i64 0, .int .i64 0, .slice none 0 0], .bool false])) (W.setRow w.heap.size #[.int .i64 0, .bool false, .int .i64 0, .int .i64 0, .int .i64 0, .int .i64 0, .slice none 0 0])) := Lib.hid (fun W h1 h2 h3 => ⟨kA 0, none, 0, false, rfl, h2.trans (Turns.of_row9 W w.heap.size #[.int .i64 0, .bool false, .int .i64 0, .int .i64 0, .int .i64 0, .int .i64 0, .slice none 0 0]) (fun q hq e => by omega), Own.nil _ _, fun i => by simp [kA], by rw [h3]; rfl⟩)
      cases ok with
      | false =>
        have HXZ := HX2
        have HBADQ := Lib.hid (HBD.out wr HX2.out HT.out (HN.out rfl))
        go_wp2_with (with_reducible refine wpList_store_row rfl 30 (.tmp 2) (.tmp 44) rfl w.heap.size #[.int .i64 0, .bool false, .int .i64 0, .int .i64 0, .int .i64 0, .int .i64 0, .slice none 0 0] rfl rfl _ _ HXZ.out (info7 _ _ _ _ _ _ _ _ _) rfl (one7 _ _ _ _ _ _ _ _ _) ?_)
        exact bodyPost_ret (v := .tuple #[.agg #[.int .i64 0, .bool false, .int .i64 0, .int .i64 0, .int .i64 0, .int .i64 0, .slice none 0 0], .bool false]) (results_row31 rfl _ _ w.heap.size 30 #[.int .i64 0, .bool false, .int .i64 0, .int .i64 0, .int .i64 0, .int .i64 0, .slice none 0 0] (0, 0) _ (.bool false) rfl rfl (setRow_heap _ _ _ _ _ _ HXZ.out) Tryd.underlying30 rfl (info7 _ _ _ _ _ _ _ _ _)) rfl HBADQ.out
      | true =>
        obtain ⟨y0, y1, y2, y3, y4, y5⟩ := HY.out rfl
        have HKQ := Lib.hid (HKW.out y0)
        have HY1 := Lib.hid y1
        have HY2 := Lib.hid y2
        have HY3 := Lib.hid y3
        obtain ⟨hwb, hwl⟩ := HWX2.out.head
        obtain ⟨wd1, hwd1⟩ : ∃ x, x = wx.headD [] := ⟨_, rfl⟩
        have HNX1 : Hid (Calls Tryd.prog 30 #[.pointer (some ⟨g, 0, none⟩)] wr fun e w' => e = .returned (.string (str wd1)) ∧ WdB w' g wx.tail ∧ Turns (fun k => k = g) wr w') := Lib.hid (by rw [hwd1]; exact next31_any g wx _ HWX2.out)
        rw [← hwd1] at hwb hwl
        have HW1D := Lib.hid hwd1
        have hem := emp_str hwb
        clear y0 y1 y2 y3 y4 y5 hwd1 hwl hwb
        generalize hSW : str wd1 = SW at *
        clear hSW
        by_cases hz : wd1 = []
        · have hrl : r.length = (ordL k).length := by
            rw [HLL.out]
            by_cases h : j < r.length
            · exfalso
              have e1 : wx.headD [] = r[j] := by rw [HY1.out, List.drop_eq_getElem_cons h]; rfl
              exact HWT.out r[j] (List.getElem_mem h) (by rw [← e1, ← HW1D.out]; exact hz)
            · have := HY2.out; omega
          have hall : setsP (kA k) ((ordL k).zip r) = some a := by
            have := HY3.out
            rwa [List.take_of_length_le (by rw [HLL.out]; exact Nat.le_refl _), List.take_of_length_le (by rw [hrl, HLL.out]; exact Nat.le_refl _)] at this
          have HACT : Hid (actW ws = if mayA a = true then some a else none) := Lib.hid (by rw [HKQ.out, if_pos hrl, hall])
          rw [decide_eq_true hz] at hem
          have HEM := Lib.hid hem
          clear hz hrl hall HKQ hem
          have hem := HEM.out
          go_wp2_with fail
          refine HNX1.out.mono ?_
          rintro e w6 ⟨rfl, hwd6, ht6⟩
          have HX66 := Lib.hid ((ht6.block _ (blk_lt HX6.out) (fun e => by have := HG.out; have := HB34.out; omega)).trans HX6.out)
          have HX62 := Lib.hid ((ht6.block _ (blk_lt HX2.out) (fun e => by have := HG.out; omega)).trans HX2.out)
          have HO6 := Lib.hid (ho_turn HO.out ht6 (fun q e => by have := HG.out; have := HB34.out; omega))
          have HT6 := Lib.hid (HT.out.trans ht6 (fun q _ h => h))
          obtain ⟨A9, c9, hA9, hbs⟩ := HO6.out.bs HBY.out
          injection hA9 with e1 e2 e3
          subst e1 e3
          have HMY := Lib.hid (pmay_any a A a.b.length cA w6 hbs)
          have q0 := blk_cell HX66.out 0
          have q1 := blk_cell HX66.out 1
          have q2 := blk_cell HX66.out 2
          have q3 := blk_cell HX66.out 3
          have q4 := blk_cell HX66.out 4
          have q5 := blk_cell HX66.out 5
          have q6 := blk_cell HX66.out 6
          clear hwd6 ht6 hbs e2
          obtain ⟨kk, yy, z1, z2, z3, z4, bb⟩ := a
          obtain ⟨bn, hbn⟩ : ∃ bn, bn = bb.length := ⟨_, rfl⟩
          have HBN := Lib.hid hbn
          have HMY2 : Hid (Calls Tryd.prog 17 #[.agg #[.int .i64 kk, .bool yy, .int .i64 z1, .int .i64 z2, .int .i64 z3, .int .i64 z4, .slice A bn cA]] w6 (SameTo w6 (mayA ⟨kk, yy, z1, z2, z3, z4, bb⟩))) := Lib.hid (by rw [hbn]; exact HMY.out)
          have HX6B : Hid (w6.heap[w3.heap.size]? = some (.cells #[.int .i64 kk, .bool yy, .int .i64 z1, .int .i64 z2, .int .i64 z3, .int .i64 z4, .slice A bn cA] 30 (0, 0))) := Lib.hid (by rw [hbn]; exact HX66.out)
          have HO6B : Hid (Own w6 (w3.heap.size + 2) (.slice A bn cA) bb) := Lib.hid (by rw [hbn]; exact HO6.out)
          simp only [← hbn] at q6
          clear hbn HMY HX66 HO6 HY HY3 HO HX6
          generalize hM : mayA ⟨kk, yy, z1, z2, z3, z4, bb⟩ = M at *
          clear hM
          go_wp2_with fail
          refine HMY2.out.mono ?_
          rintro e w9 ⟨rfl, hb9⟩
          have HX92 := Lib.hid ((hb9.block _ (blk_lt HX62.out)).trans HX62.out)
          have HX96 := Lib.hid ((hb9.block _ (blk_lt HX6B.out)).trans HX6B.out)
          have HO9 := Lib.hid (HO6B.out.below hb9)
          have HT9 : Hid (Turns (fun k => k = g) w w9) := Lib.hid (HT6.out.trans (Turns.of_below (S := fun k => k = g) hb9) (fun q _ h => h))
          clear hb9 q0 q1 q2 q3 q4 q5 q6
          cases M with
          | false =>
            have HXZ := HX92
            have HBADQ := Lib.hid (HBD.out w9 HX92.out HT9.out (by rw [HACT.out]; rfl))
            go_wp2_with (with_reducible refine wpList_store_row rfl 30 (.tmp 2) (.tmp 44) rfl w.heap.size #[.int .i64 0, .bool false, .int .i64 0, .int .i64 0, .int .i64 0, .int .i64 0, .slice none 0 0] rfl rfl _ _ HXZ.out (info7 _ _ _ _ _ _ _ _ _) rfl (one7 _ _ _ _ _ _ _ _ _) ?_)
            exact bodyPost_ret (v := .tuple #[.agg #[.int .i64 0, .bool false, .int .i64 0, .int .i64 0, .int .i64 0, .int .i64 0, .slice none 0 0], .bool false]) (results_row31 rfl _ _ w.heap.size 30 #[.int .i64 0, .bool false, .int .i64 0, .int .i64 0, .int .i64 0, .int .i64 0, .slice none 0 0] (0, 0) _ (.bool false) rfl rfl (setRow_heap _ _ _ _ _ _ HXZ.out) Tryd.underlying30 rfl (info7 _ _ _ _ _ _ _ _ _)) rfl HBADQ.out
          | true =>
            have q0 := blk_cell HX96.out 0
            have q1 := blk_cell HX96.out 1
            have q2 := blk_cell HX96.out 2
            have q3 := blk_cell HX96.out 3
            have q4 := blk_cell HX96.out 4
            have q5 := blk_cell HX96.out 5
            have q6 := blk_cell HX96.out 6
            have HF : Hid (RdTo w g ws (.returned (.tuple #[.agg #[.int .i64 kk, .bool yy, .int .i64 z1, .int .i64 z2, .int .i64 z3, .int .i64 z4, .slice A bn cA], .bool true])) (w9.setRow w.heap.size #[.int .i64 kk, .bool yy, .int .i64 z1, .int .i64 z2, .int .i64 z3, .int .i64 z4, .slice A bn cA])) := Lib.hid ⟨⟨kk, yy, z1, z2, z3, z4, bb⟩, A, cA, true, by rw [HBN.out], HT9.out.trans (Turns.of_row9 w9 w.heap.size _) (fun q hq e => by omega), (own_setRow9 (by have := HO9.out; rw [HBN.out] at this; exact this) (by have := HB34.out; omega) _).base (by have := HB34.out; omega), HBY.out, HACT.out⟩
            have HR9 := Lib.hid (setRow_heap w9 w.heap.size #[.int .i64 0, .bool false, .int .i64 0, .int .i64 0, .int .i64 0, .int .i64 0, .slice none 0 0] #[.int .i64 kk, .bool yy, .int .i64 z1, .int .i64 z2, .int .i64 z3, .int .i64 z4, .slice A bn cA] 30 (0, 0) HX92.out)
            go_wp2_with (with_reducible refine wpList_store_row rfl 30 (.tmp 2) (.tmp 45) rfl w.heap.size #[.int .i64 kk, .bool yy, .int .i64 z1, .int .i64 z2, .int .i64 z3, .int .i64 z4, .slice A bn cA] rfl rfl _ _ HX92.out (info7 _ _ _ _ _ _ _ _ _) rfl (one7 _ _ _ _ _ _ _ _ _) ?_)
            exact bodyPost_ret (v := .tuple #[.agg #[.int .i64 kk, .bool yy, .int .i64 z1, .int .i64 z2, .int .i64 z3, .int .i64 z4, .slice A bn cA], .bool true]) (results_row31 rfl _ _ w.heap.size 30 #[.int .i64 kk, .bool yy, .int .i64 z1, .int .i64 z2, .int .i64 z3, .int .i64 z4, .slice A bn cA] (0, 0) _ (.bool true) rfl rfl HR9.out Tryd.underlying30 rfl (info7 _ _ _ _ _ _ _ _ _)) rfl HF.out
        · have HXZ1 := HX2
          have hno : actW ws = none := by
            rw [HKQ.out, if_neg (fun e => hz (by
              rw [HW1D.out, HY1.out, List.drop_of_length_le (by rw [e, HLL.out]; exact Nat.le_refl _)]; rfl))]
          have HNO := Lib.hid hno
          rw [decide_eq_false hz] at hem
          clear hz hno HKQ
          go_wp2_with fail
          refine HNX1.out.mono ?_
          rintro e w6 ⟨rfl, hwd6, ht6⟩
          have HXZ := Lib.hid ((ht6.block _ (blk_lt HX2.out) (fun e => by have := HG.out; omega)).trans HX2.out)
          have HT6 := Lib.hid (HT.out.trans ht6 (fun q _ h => h))
          have HBADQ := Lib.hid (HBD.out w6 HXZ.out HT6.out HNO.out)
          clear hwd6 ht6
          go_wp2_with (with_reducible refine wpList_store_row rfl 30 (.tmp 2) (.tmp 44) rfl w.heap.size #[.int .i64 0, .bool false, .int .i64 0, .int .i64 0, .int .i64 0, .int .i64 0, .slice none 0 0] rfl rfl _ _ HXZ.out (info7 _ _ _ _ _ _ _ _ _) rfl (one7 _ _ _ _ _ _ _ _ _) ?_)
          exact bodyPost_ret (v := .tuple #[.agg #[.int .i64 0, .bool false, .int .i64 0, .int .i64 0, .int .i64 0, .int .i64 0, .slice none 0 0], .bool false]) (results_row31 rfl _ _ w.heap.size 30 #[.int .i64 0, .bool false, .int .i64 0, .int .i64 0, .int .i64 0, .int .i64 0, .slice none 0 0] (0, 0) _ (.bool false) rfl rfl (setRow_heap _ _ _ _ _ _ HXZ.out) Tryd.underlying30 rfl (info7 _ _ _ _ _ _ _ _ _)) rfl HBADQ.out
end Go.Proofs.YtcaogiaoabdkdaaDoor
