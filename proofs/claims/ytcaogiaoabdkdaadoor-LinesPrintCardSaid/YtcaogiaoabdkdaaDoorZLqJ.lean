/-
  Joined: LnJ, LqJ.
-/
import Derived.Test.YtcaogiaoabdkdaaDoorZLnI
import Derived.Test.YtcaogiaoabdkdaaDoorZLqI
namespace Go.Proofs.YtcaogiaoabdkdaaDoor
set_option maxRecDepth 100000
section
open Go.RowKit Go
set_option linter.unusedVariables false
set_option linter.unusedSimpArgs false
set_option maxRecDepth 100000
set_option maxHeartbeats 1000000
def fldX (c : Nat) : Nat := if c = 75 then 3 else if c = 78 then 4 else if c = 65 then 5 else 2
/-- the place of what a sign tells of -/
theorem field_any (c b : Nat) (w : World) :
    Calls Tryd.prog 56 #[.pointer (some ⟨b, 0, none⟩), .int .i32 (c : Int)] w fun e w' => e = .returned (.pointer (some ⟨b, fldX c, none⟩)) ∧ w = w' := by
  by_cases h1 : c = 75
  · subst h1
    rw [show fldX 75 = 3 from rfl]
    go_enter Tryd.func56, Tryd.ntmps56
    go_wp2
    go_ret
    exact ⟨rfl, rfl⟩
  · by_cases h2 : c = 78
    · subst h2
      rw [show fldX 78 = 4 from rfl]
      go_enter Tryd.func56, Tryd.ntmps56
      go_wp2
      go_ret
      exact ⟨rfl, rfl⟩
    · by_cases h3 : c = 65
      · subst h3
        rw [show fldX 65 = 5 from rfl]
        go_enter Tryd.func56, Tryd.ntmps56
        go_wp2
        go_ret
        exact ⟨rfl, rfl⟩
      · have e : fldX c = 2 := by unfold fldX; rw [if_neg h1, if_neg h2, if_neg h3]
        rw [e]
        have i1 : ((c : Int) == 75) = false := by rw [beq_eq_false_iff_ne]; omega
        have i2 : ((c : Int) == 78) = false := by rw [beq_eq_false_iff_ne]; omega
        have i3 : ((c : Int) == 65) = false := by rw [beq_eq_false_iff_ne]; omega
        clear e h1 h2 h3
        go_enter Tryd.func56, Tryd.ntmps56
        go_wp2
        go_ret
        exact ⟨rfl, rfl⟩
/-- is there no word any more? -/
theorem none_any (b : Nat) (u : List Nat) (hu : ∀ k, u.getD k 0 < 256) (w : World) (hc : w.cell? ⟨b, 0, none⟩ = some (.string (str u))) :
    Calls Tryd.prog 28 #[.pointer (some ⟨b, 0, none⟩)] w fun e w' => e = .returned (.bool (decide (u = []))) ∧ w = w' := by
  rw [← emp_str hu]
  generalize str u = U at *
  rw [show (U.toList == ([] : List UInt8)) = U.toList.isEmpty by cases U.toList <;> rfl]
  go_enter Tryd.func28, Tryd.ntmps28
  go_wp2
  go_ret
  exact ⟨rfl, rfl⟩
end
section
open Go.RowKit Go Go.Shelf
set_option linter.unusedVariables false
set_option linter.unusedSimpArgs false
set_option maxRecDepth 1000000
set_option maxHeartbeats 1000000
/-- the number that a word is, however great -/
def valP (w : List Nat) : Option Nat := if okN w = true then some (valN w) else none
def setP (a : Ac) (c : Nat) (w : List Nat) : Option Ac :=
  if c = 119 then (valP w).map fun n => { a with which := n } else if c = 107 then (valP w).map fun n => { a with k := n }
  else if c = 110 then (valP w).map fun n => { a with n := n } else if c = 97 then (valP w).map fun n => { a with pos := n }
  else if c = 98 then (bytL w).map fun b => { a with b := b }
  else if c = 111 then (if w = wrW then some { a with yes := true } else if w = rdW then some { a with yes := false } else none)
  else (if w = noW then some { a with yes := true, which := 0 } else (valP w).map fun n => { a with yes := false, which := n })
def TkTo (w : World) (b B : Nat) (a : Ac) (A : Option Addr) (cA : Nat) (c : Nat) (wd : List Nat) (e : Ending) (w' : World) : Prop := ∃ (a' : Ac) (A' : Option Addr) (c' : Nat) (ok : Bool), e = .returned (.bool ok) ∧ w'.heap[b]? = some (.cells #[.int .i64 a'.kind, .bool a'.yes, .int .i64 a'.which, .int .i64 a'.k, .int .i64 a'.n, .int .i64 a'.pos, .slice A' a'.b.length c'] 30 (0, 0)) ∧ Own w' B (.slice A' a'.b.length c') a'.b ∧ (∀ i, a'.b.getD i 0 < 256) ∧ Turns (fun k => k = b) w w' ∧ (setP a c wd = if ok = true then some a' else none) ∧ (c ≠ 98 → A' = A ∧ c' = cA)
theorem ho_turn {W W' : World} {B : Nat} {v : Value} {l : List Nat} {S : Nat → Prop} (h : Own W B v l) (ht : Turns S W W') (hs : ∀ k, S k → k < B) : Own W' B v l :=
  h.keep fun g hg => ht.block g (h.lt hg).2 (fun e => by have := hs g e; have := (h.lt hg).1; omega)
theorem take_which (b cA B : Nat) (A : Option Addr) (a : Ac) (wd : List Nat) (hm : ∀ i, wd.getD i 0 < 256) (w : World) (hx : w.heap[b]? = some (.cells #[.int .i64 a.kind, .bool a.yes, .int .i64 a.which, .int .i64 a.k, .int .i64 a.n, .int .i64 a.pos, .slice A a.b.length cA] 30 (0, 0))) (ho : Own w B (.slice A a.b.length cA) a.b) (hby : ∀ i, a.b.getD i 0 < 256) (hbB : b < B) (hB : B ≤ w.heap.size) (hz : a.which = 0) :
    Calls Tryd.prog 46 #[.pointer (some ⟨b, 0, none⟩), .int .i32 87, .string (str wd)] w (TkTo w b B a A cA 119 wd) := by
  have HC := Lib.hid (count31_any b 2 30 #[.int .i64 a.kind, .bool a.yes, .int .i64 a.which, .int .i64 a.k, .int .i64 a.n, .int .i64 a.pos, .slice A a.b.length cA] wd hm w hx (by rw [hz]; rfl))
  have HFL := Lib.hid (field_any 87 b)
  have HSP : Hid (setP a 119 wd = if okN wd = true then some { a with which := ((valN wd : Nat) : Int) } else none) := Lib.hid (by unfold setP valP; cases okN wd <;> simp)
  have HO := Lib.hid ho
  have HBY := Lib.hid hby
  clear hx ho hm
  go_enter Tryd.func46, Tryd.ntmps46
  go_wp2_with fail
  refine (HFL.out _).mono ?_
  rintro e w1 ⟨rfl, rfl⟩
  rw [show fldX 87 = 2 from rfl]
  go_wp2_with fail
  refine HC.out.mono ?_
  rintro e w1 ⟨v, rfl, hc, ht, hv⟩
  have HF : Hid (TkTo w b B a A cA 119 wd (.returned (.bool (okN wd))) w1) := Lib.hid ⟨{ a with which := v }, A, cA, okN wd, rfl, hc, ho_turn HO.out ht (fun k hk => by omega), HBY.out, ht, by
    rw [HSP.out]
    cases hk : okN wd
    · rfl
    · rw [hv hk], fun _ => ⟨rfl, rfl⟩⟩
  clear hc ht hv
  generalize okN wd = ok at *
  go_wp2_with fail
  go_ret
  exact HF.out
theorem take_k (b cA B : Nat) (A : Option Addr) (a : Ac) (wd : List Nat) (hm : ∀ i, wd.getD i 0 < 256) (w : World) (hx : w.heap[b]? = some (.cells #[.int .i64 a.kind, .bool a.yes, .int .i64 a.which, .int .i64 a.k, .int .i64 a.n, .int .i64 a.pos, .slice A a.b.length cA] 30 (0, 0))) (ho : Own w B (.slice A a.b.length cA) a.b) (hby : ∀ i, a.b.getD i 0 < 256) (hbB : b < B) (hB : B ≤ w.heap.size) (hz : a.k = 0) :
    Calls Tryd.prog 46 #[.pointer (some ⟨b, 0, none⟩), .int .i32 75, .string (str wd)] w (TkTo w b B a A cA 107 wd) := by
  have HC := Lib.hid (count31_any b 3 30 #[.int .i64 a.kind, .bool a.yes, .int .i64 a.which, .int .i64 a.k, .int .i64 a.n, .int .i64 a.pos, .slice A a.b.length cA] wd hm w hx (by rw [hz]; rfl))
  have HFL := Lib.hid (field_any 75 b)
  have HSP : Hid (setP a 107 wd = if okN wd = true then some { a with k := ((valN wd : Nat) : Int) } else none) := Lib.hid (by unfold setP valP; cases okN wd <;> simp)
  have HO := Lib.hid ho
  have HBY := Lib.hid hby
  clear hx ho hm
  go_enter Tryd.func46, Tryd.ntmps46
  go_wp2_with fail
  refine (HFL.out _).mono ?_
  rintro e w1 ⟨rfl, rfl⟩
  rw [show fldX 75 = 3 from rfl]
  go_wp2_with fail
  refine HC.out.mono ?_
  rintro e w1 ⟨v, rfl, hc, ht, hv⟩
  have HF : Hid (TkTo w b B a A cA 107 wd (.returned (.bool (okN wd))) w1) := Lib.hid ⟨{ a with k := v }, A, cA, okN wd, rfl, hc, ho_turn HO.out ht (fun k hk => by omega), HBY.out, ht, by
    rw [HSP.out]
    cases hk : okN wd
    · rfl
    · rw [hv hk], fun _ => ⟨rfl, rfl⟩⟩
  clear hc ht hv
  generalize okN wd = ok at *
  go_wp2_with fail
  go_ret
  exact HF.out
theorem take_n (b cA B : Nat) (A : Option Addr) (a : Ac) (wd : List Nat) (hm : ∀ i, wd.getD i 0 < 256) (w : World) (hx : w.heap[b]? = some (.cells #[.int .i64 a.kind, .bool a.yes, .int .i64 a.which, .int .i64 a.k, .int .i64 a.n, .int .i64 a.pos, .slice A a.b.length cA] 30 (0, 0))) (ho : Own w B (.slice A a.b.length cA) a.b) (hby : ∀ i, a.b.getD i 0 < 256) (hbB : b < B) (hB : B ≤ w.heap.size) (hz : a.n = 0) :
    Calls Tryd.prog 46 #[.pointer (some ⟨b, 0, none⟩), .int .i32 78, .string (str wd)] w (TkTo w b B a A cA 110 wd) := by
  have HC := Lib.hid (count31_any b 4 30 #[.int .i64 a.kind, .bool a.yes, .int .i64 a.which, .int .i64 a.k, .int .i64 a.n, .int .i64 a.pos, .slice A a.b.length cA] wd hm w hx (by rw [hz]; rfl))
  have HFL := Lib.hid (field_any 78 b)
  have HSP : Hid (setP a 110 wd = if okN wd = true then some { a with n := ((valN wd : Nat) : Int) } else none) := Lib.hid (by unfold setP valP; cases okN wd <;> simp)
  have HO := Lib.hid ho
  have HBY := Lib.hid hby
  clear hx ho hm
  go_enter Tryd.func46, Tryd.ntmps46
  go_wp2_with fail
  refine (HFL.out _).mono ?_
  rintro e w1 ⟨rfl, rfl⟩
  rw [show fldX 78 = 4 from rfl]
  go_wp2_with fail
  refine HC.out.mono ?_
  rintro e w1 ⟨v, rfl, hc, ht, hv⟩
  have HF : Hid (TkTo w b B a A cA 110 wd (.returned (.bool (okN wd))) w1) := Lib.hid ⟨{ a with n := v }, A, cA, okN wd, rfl, hc, ho_turn HO.out ht (fun k hk => by omega), HBY.out, ht, by
    rw [HSP.out]
    cases hk : okN wd
    · rfl
    · rw [hv hk], fun _ => ⟨rfl, rfl⟩⟩
  clear hc ht hv
  generalize okN wd = ok at *
  go_wp2_with fail
  go_ret
  exact HF.out
theorem take_pos (b cA B : Nat) (A : Option Addr) (a : Ac) (wd : List Nat) (hm : ∀ i, wd.getD i 0 < 256) (w : World) (hx : w.heap[b]? = some (.cells #[.int .i64 a.kind, .bool a.yes, .int .i64 a.which, .int .i64 a.k, .int .i64 a.n, .int .i64 a.pos, .slice A a.b.length cA] 30 (0, 0))) (ho : Own w B (.slice A a.b.length cA) a.b) (hby : ∀ i, a.b.getD i 0 < 256) (hbB : b < B) (hB : B ≤ w.heap.size) (hz : a.pos = 0) :
    Calls Tryd.prog 46 #[.pointer (some ⟨b, 0, none⟩), .int .i32 65, .string (str wd)] w (TkTo w b B a A cA 97 wd) := by
  have HC := Lib.hid (count31_any b 5 30 #[.int .i64 a.kind, .bool a.yes, .int .i64 a.which, .int .i64 a.k, .int .i64 a.n, .int .i64 a.pos, .slice A a.b.length cA] wd hm w hx (by rw [hz]; rfl))
  have HFL := Lib.hid (field_any 65 b)
  have HSP : Hid (setP a 97 wd = if okN wd = true then some { a with pos := ((valN wd : Nat) : Int) } else none) := Lib.hid (by unfold setP valP; cases okN wd <;> simp)
  have HO := Lib.hid ho
  have HBY := Lib.hid hby
  clear hx ho hm
  go_enter Tryd.func46, Tryd.ntmps46
  go_wp2_with fail
  refine (HFL.out _).mono ?_
  rintro e w1 ⟨rfl, rfl⟩
  rw [show fldX 65 = 5 from rfl]
  go_wp2_with fail
  refine HC.out.mono ?_
  rintro e w1 ⟨v, rfl, hc, ht, hv⟩
  have HF : Hid (TkTo w b B a A cA 97 wd (.returned (.bool (okN wd))) w1) := Lib.hid ⟨{ a with pos := v }, A, cA, okN wd, rfl, hc, ho_turn HO.out ht (fun k hk => by omega), HBY.out, ht, by
    rw [HSP.out]
    cases hk : okN wd
    · rfl
    · rw [hv hk], fun _ => ⟨rfl, rfl⟩⟩
  clear hc ht hv
  generalize okN wd = ok at *
  go_wp2_with fail
  go_ret
  exact HF.out
theorem take_b (b cA B : Nat) (A : Option Addr) (a : Ac) (wd : List Nat) (hm : ∀ i, wd.getD i 0 < 256) (hn : wd.length ≤ 1000000) (w : World) (hx : w.heap[b]? = some (.cells #[.int .i64 a.kind, .bool a.yes, .int .i64 a.which, .int .i64 a.k, .int .i64 a.n, .int .i64 a.pos, .slice A a.b.length cA] 30 (0, 0))) (hbB : b < B) (hB : B ≤ w.heap.size) (hA : A = none ∧ a.b = [] ∧ cA = 0) :
    Calls Tryd.prog 46 #[.pointer (some ⟨b, 0, none⟩), .int .i32 66, .string (str wd)] w (TkTo w b B a A cA 98 wd) := by
  obtain ⟨rfl, hbn, rfl⟩ := hA
  have HC := Lib.hid (unhex_any b 6 30 #[.int .i64 a.kind, .bool a.yes, .int .i64 a.which, .int .i64 a.k, .int .i64 a.n, .int .i64 a.pos, .slice none a.b.length 0] wd hm hn w hx (by rw [hbn]; rfl))
  have HSP : Hid (setP a 98 wd = (bytL wd).map fun b => { a with b := b }) := Lib.hid (by unfold setP; simp)
  clear hx hm
  go_enter Tryd.func46, Tryd.ntmps46
  go_wp2_with fail
  refine HC.out.mono ?_
  rintro e w1 ⟨A1, c1, l, ok, rfl, hc, ho, hby, ht, hv⟩
  have HF : Hid (TkTo w b B a none 0 98 wd (.returned (.bool ok)) w1) := Lib.hid ⟨{ a with b := l }, A1, c1, ok, rfl, hc, ho.base hB, hby, ht, by
    rw [HSP.out, hv]
    cases ok <;> rfl, fun h => absurd rfl h⟩
  clear hc ht hv ho hby
  go_wp2_with fail
  go_ret
  exact HF.out
theorem lit_eq {wd : List Nat} (hm : ∀ i, wd.getD i 0 < 256) {m : List Nat} (hm2 : ∀ c ∈ m, c < 256) : ((str wd).toList == (m.map UInt8.ofNat)) = decide (wd = m) := by
  rw [← str_toList hm (m := m) (getD_lt256 hm2), toList_data (str m), str_data]
theorem take_o (b cA B : Nat) (A : Option Addr) (a : Ac) (wd : List Nat) (hm : ∀ i, wd.getD i 0 < 256) (w : World) (hx : w.heap[b]? = some (.cells #[.int .i64 a.kind, .bool a.yes, .int .i64 a.which, .int .i64 a.k, .int .i64 a.n, .int .i64 a.pos, .slice A a.b.length cA] 30 (0, 0))) (ho : Own w B (.slice A a.b.length cA) a.b) (hby : ∀ i, a.b.getD i 0 < 256) (hbB : b < B) (hB : B ≤ w.heap.size) :
    Calls Tryd.prog 46 #[.pointer (some ⟨b, 0, none⟩), .int .i32 77, .string (str wd)] w (TkTo w b B a A cA 111 wd) := by
  have hr : ((str wd).toList == ([114, 101, 97, 100] : List UInt8)) = decide (wd = rdW) := lit_eq hm (m := rdW) (by decide)
  have hwr : ((str wd).toList == ([119, 114, 105, 116, 101] : List UInt8)) = decide (wd = wrW) := lit_eq hm (m := wrW) (by decide)
  have q0 := blk_cell hx 1
  have f0 := blk_free hx 1
  have q1 : ∀ v : Value, (w.setCell ⟨b, 1, none⟩ v).cell? ⟨b, 1, none⟩ = some v := fun v => World.cell?_setCell_same _ _ _ q0
  have qt := q1 (.bool true)
  have qf := q1 (.bool false)
  have HFE : Hid (∀ (v ok : Bool), setP a 111 wd = (if ok = true then some { a with yes := v } else none) → TkTo w b B a A cA 111 wd (.returned (.bool ok)) (w.setCell ⟨b, 1, none⟩ (.bool v))) := Lib.hid (fun v ok h => ⟨{ a with yes := v }, A, cA, ok, rfl, blk_set hx 1 (.bool v), ownsRow_setCell_below ho hbB _, hby, Turns.set (S := fun k => k = b) ⟨b, 1, none⟩ _ rfl, h, fun _ => ⟨rfl, rfl⟩⟩)
  clear q1
  by_cases h1 : wd = wrW
  · have HF := Lib.hid (HFE.out true true (by unfold setP; simp [h1]))
    rw [decide_eq_true h1] at hwr
    clear h1 HFE hr hx ho hm hby
    generalize str wd = S at *
    go_enter Tryd.func46, Tryd.ntmps46
    go_wp2_with fail
    go_ret
    exact HF.out
  · rw [decide_eq_false h1] at hwr
    by_cases h2 : wd = rdW
    · have HF := Lib.hid (HFE.out false true (by unfold setP; simp [h1, h2]; decide))
      rw [decide_eq_true h2] at hr
      clear h1 h2 HFE hx ho hm hby
      generalize str wd = S at *
      go_enter Tryd.func46, Tryd.ntmps46
      go_wp2_with fail
      go_ret
      exact HF.out
    · have HF := Lib.hid (HFE.out false false (by unfold setP; simp [h1, h2]))
      rw [decide_eq_false h2] at hr
      clear h1 h2 HFE hx ho hm hby
      generalize str wd = S at *
      go_enter Tryd.func46, Tryd.ntmps46
      go_wp2_with fail
      go_ret
      exact HF.out
theorem take_s (b cA B : Nat) (A : Option Addr) (a : Ac) (wd : List Nat) (hm : ∀ i, wd.getD i 0 < 256) (w : World) (hx : w.heap[b]? = some (.cells #[.int .i64 a.kind, .bool a.yes, .int .i64 a.which, .int .i64 a.k, .int .i64 a.n, .int .i64 a.pos, .slice A a.b.length cA] 30 (0, 0))) (ho : Own w B (.slice A a.b.length cA) a.b) (hby : ∀ i, a.b.getD i 0 < 256) (hbB : b < B) (hB : B ≤ w.heap.size) (hz : a.which = 0) (hy : a.yes = false) :
    Calls Tryd.prog 46 #[.pointer (some ⟨b, 0, none⟩), .int .i32 84, .string (str wd)] w (TkTo w b B a A cA 115 wd) := by
  have hno : ((str wd).toList == ([110, 111, 110, 101] : List UInt8)) = decide (wd = noW) := lit_eq hm (m := noW) (by decide)
  by_cases h1 : wd = noW
  · have q0 := blk_cell hx 1
    have f0 := blk_free hx 1
    have HF : Hid (TkTo w b B a A cA 115 wd (.returned (.bool true)) (w.setCell ⟨b, 1, none⟩ (.bool true))) := Lib.hid ⟨{ a with yes := true }, A, cA, true, rfl, blk_set hx 1 (.bool true), ownsRow_setCell_below ho hbB _, hby, Turns.set (S := fun k => k = b) ⟨b, 1, none⟩ _ rfl, by
      unfold setP
      obtain ⟨k0, y0, z0, z1, z2, z3, b0⟩ := a
      simp only at hz
      subst hz
      simp [h1], fun _ => ⟨rfl, rfl⟩⟩
    rw [decide_eq_true h1] at hno
    clear h1 hx ho hm hby
    generalize str wd = S at *
    go_enter Tryd.func46, Tryd.ntmps46
    go_wp2_with fail
    go_ret
    exact HF.out
  · have HC := Lib.hid (count31_any b 2 30 #[.int .i64 a.kind, .bool a.yes, .int .i64 a.which, .int .i64 a.k, .int .i64 a.n, .int .i64 a.pos, .slice A a.b.length cA] wd hm w hx (by rw [hz]; rfl))
    have HFL := Lib.hid (field_any 84 b)
    have HSP : Hid (setP a 115 wd = if okN wd = true then some { a with which := ((valN wd : Nat) : Int) } else none) := Lib.hid (by
      unfold setP valP
      obtain ⟨k0, y0, z0, z1, z2, z3, b0⟩ := a
      simp only at hy
      subst hy
      cases okN wd <;> simp [h1])
    rw [decide_eq_false h1] at hno
    have HO := Lib.hid ho
    have HBY := Lib.hid hby
    have HNO := Lib.hid hno
    clear hx ho hm h1
    have hSS : ∃ S, str wd = S := ⟨_, rfl⟩
    go_enter Tryd.func46, Tryd.ntmps46
    go_wp2_with fail
    refine (HFL.out _).mono ?_
    rintro e w1 ⟨rfl, rfl⟩
    rw [show fldX 84 = 2 from rfl]
    go_wp2_with fail
    refine HC.out.mono ?_
    rintro e w1 ⟨v, rfl, hc, ht, hv⟩
    have HF : Hid (TkTo w b B a A cA 115 wd (.returned (.bool (okN wd))) w1) := Lib.hid ⟨{ a with which := v }, A, cA, okN wd, rfl, hc, ho_turn HO.out ht (fun k hk => by omega), HBY.out, ht, by
      rw [HSP.out]
      cases hk : okN wd
      · rfl
      · rw [hv hk], fun _ => ⟨rfl, rfl⟩⟩
    clear hc ht hv
    generalize okN wd = ok at *
    go_wp2_with fail
    go_ret
    exact HF.out
end
end Go.Proofs.YtcaogiaoabdkdaaDoor
