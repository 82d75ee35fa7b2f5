/-
  Rows of fields: what take answers.
-/
import Derived.Test.YtkgmggjlnibgmaaRowA
namespace Go.Proofs.Ytkgmggjlnibgmaa
open Go.RowKit
set_option linter.unusedVariables false
theorem BS.drop {w : World} {B n c k : Nat} {A : Option Addr} {l : List Nat} (h : BS w B A n c l) (hk : k ≤ n) :
    BS w B (if c = k then A else A.map (·.add k)) (n - k) (c - k) (l.drop k) := by
  obtain ⟨h1, h2, h3, h4, h5⟩ := h
  refine ⟨by rw [List.length_drop, h1], by omega, by omega, fun i => ?_, fun hn => ?_⟩
  · have := h4 (k + i)
    simpa [List.getD, List.getElem?_drop] using this
  · obtain ⟨b, o, e, hb, hc⟩ := h5 (by omega)
    rw [if_neg (by omega), e]
    refine ⟨b, o + k, by simp [Go.WideShapes.add_plain], hb, fun i hi => ?_⟩
    rw [Nat.add_assoc, hc (k + i) (by omega)]
    simp [List.getD, List.getElem?_drop]
/-- what take gives, what is left, and what was wrong first -/
def takeS (l : List Nat) (e : Int) (n : Int) (may : Bool) : List Nat × List Nat × Int :=
  if e ≠ 0 then ([], l, e) else if may = false then ([], [], 1) else if (l.length : Int) < n then ([], [], 3) else (l.take n.toNat, l.drop n.toNat, 0)
def TakeTo (W : World) (g : Nat) (r : List Nat × List Nat × Int) (E : Ending) (W' : World) : Prop :=
  ∃ A c, E = .returned (.slice A r.1.length c) ∧ BS W' g A r.1.length c r.1 ∧ RowSt W' g 72 r.2.1 r.2.2 ∧ W.grownBy W' (some g)
theorem take_fail {W W' : World} {g : Nat} {e : Int} (hg : W'.heap[g]? = some (.cells #[.slice none 0 0, .int .i64 e] 72 (0, 0))) (hb : W.grownBy W' (some g)) :
    TakeTo W g ([], [], e) (.returned (.slice none 0 0)) W' := ⟨none, 0, rfl, BS.nil _ _, ⟨none, 0, hg, BS.nil _ _⟩, hb⟩
theorem set0 (x0 x1 a : Value) : #[x0, x1].setIfInBounds 0 a = #[a, x1] := by simp
theorem take_ok {W : World} {g : Nat} {l : List Nat} {A : Option Addr} {n c k : Nat} (hg : W.heap[g]? = some (.cells #[.slice A n c, .int .i64 0] 72 (0, 0))) (hs : BS W g A n c l) (hk : k ≤ n) :
    TakeTo W g (l.take k, l.drop k, 0) (.returned (.slice A k c)) (W.setCell ⟨g, 0, none⟩ (.slice (if c = k then A else A.map (·.add k)) (n - k) (c - k))) := by
  have h1 := blk_set hg 0 (Value.slice (if c = k then A else A.map (·.add k)) (n - k) (c - k))
  rw [set0] at h1
  have kp : ∀ p : Addr, p.block < g → (W.setCell ⟨g, 0, none⟩ (.slice (if c = k then A else A.map (·.add k)) (n - k) (c - k))).cell? p = W.cell? p := fun p hp =>
    World.cell?_setCell_other W ⟨g, 0, none⟩ p _ (fun e => by subst e; exact absurd hp (Nat.lt_irrefl _))
  have t1 := (hs.take hk).keep kp
  have t2 := (hs.drop hk).keep kp
  have e1 : (l.take k).length = k := by rw [List.length_take, hs.len]; omega
  have e2 : (l.drop k).length = n - k := by rw [List.length_drop, hs.len]
  refine ⟨A, c, by rw [e1], by rw [e1]; exact t1, ⟨(if c = k then A else A.map (·.add k)), c - k, ?_, ?_⟩, only_set (p := ⟨g, 0, none⟩) (World.grownBy.refl W (some g)) (.inl rfl) _⟩
  · rw [h1, e2]
  · rw [e2]; exact t2
set_option maxHeartbeats 1000000 in
theorem take_any (g : Nat) (l : List Nat) (e n : Int) (may : Bool) (W : World) (hst : RowSt W g 72 l e) (hn : may = true → 0 ≤ n) :
    Calls Try.prog 48 #[.pointer (some ⟨g, 0, none⟩), .int .i64 n, .bool may] W (TakeTo W g (takeS l e n may)) := by
  obtain ⟨A, c, hg, hs⟩ := hst
  have c0 : W.cell? ⟨g, 0, none⟩ = some (.slice A l.length c) := blk_cell hg 0
  have c1 : W.cell? ⟨g, 1, none⟩ = some (.int .i64 e) := blk_cell hg 1
  have f0 := blk_free hg 0
  by_cases he : e = 0
  · subst he
    cases may
    · have HE : Hid (takeS l 0 n false = ([], [], 1)) := Lib.hid (by simp [takeS])
      have HF := fun (e : Int) => fail_any g e _ _ W hg
      have HFF := Lib.hid HF
      clear HF hs hn hg
      go_enter Try.func48, Try.ntmps48
      go_wp2_with fail
      refine (HFF.out 1).mono ?_
      rintro E W' ⟨rfl, h1, h2⟩
      have H := Lib.hid (take_fail h1 h2)
      clear h1 h2
      go_wp2
      go_ret
      rw [HE.out]; exact H.out
    · have hn0 := hn rfl
      clear hn
      by_cases hl : (l.length : Int) < n
      · have HE : Hid (takeS l 0 n true = ([], [], 3)) := Lib.hid (by simp [takeS, hl])
        have HF := fun (e : Int) => fail_any g e _ _ W hg
        have HFF := Lib.hid HF
        clear HF hs hg
        go_enter Try.func48, Try.ntmps48
        go_wp2_with fail
        refine (HFF.out 3).mono ?_
        rintro E W' ⟨rfl, h1, h2⟩
        have H := Lib.hid (take_fail h1 h2)
        clear h1 h2
        go_wp2
        go_ret
        rw [HE.out]; exact H.out
      · obtain ⟨k, rfl⟩ : ∃ k : Nat, n = (k : Int) := ⟨n.toNat, by omega⟩
        have HE : Hid (takeS l 0 (k : Int) true = (l.take k, l.drop k, 0)) := Lib.hid (by simp [takeS, hl])
        have h0 := take_ok hg hs (k := k) (by omega)
        have hcap := hs.cap
        have hkl : k ≤ l.length := by omega
        by_cases hck : c = k
        · rw [if_pos hck] at h0
          subst hck
          have ez : l.length - c = 0 := by omega
          rw [Nat.sub_self, ez] at h0
          clear ez
          have H := Lib.hid h0
          clear hg hs h0
          go_enter Try.func48, Try.ntmps48
          go_wp2
          go_ret
          rw [HE.out]; exact H.out
        · rw [if_neg hck] at h0
          have H := Lib.hid h0
          clear hg hs h0
          go_enter Try.func48, Try.ntmps48
          go_wp2
          go_ret
          rw [HE.out]; exact H.out
  · have HE : Hid (takeS l e n may = ([], l, e)) := Lib.hid (by simp [takeS, he])
    have H : Hid (TakeTo W g ([], l, e) (.returned (.slice none 0 0)) W) := Lib.hid ⟨none, 0, rfl, BS.nil _ _, ⟨A, c, hg, hs⟩, World.grownBy.refl W _⟩
    have hne : (e != 0) = true := by rw [bne_iff_ne]; exact he
    clear hg hs he hn
    go_enter Try.func48, Try.ntmps48
    go_wp2
    go_ret
    rw [HE.out]; exact H.out

/-! Num, Bytes, Err, Rest -/
theorem only_trans {a b c : World} {g : Nat} (h : a.grownBy b (some g)) (k : b.grownBy c (some g)) : a.grownBy c (some g) :=
  ⟨k.os.trans h.os, k.tape.trans h.tape, k.output.trans h.output, Nat.le_trans h.size k.size, fun i hi hne => (k.block i (Nat.lt_of_lt_of_le hi h.size) hne).trans (h.block i hi hne)⟩
theorem only_below {a b : World} {g : Nat} (h : Below a.heap.size a b) : a.grownBy b (some g) := ⟨h.os, h.tape, h.output, h.size, fun i hi _ => h.block i hi⟩
theorem RowSt.below {W W' : World} {g : Nat} {t : TypeId} {l : List Nat} {e : Int} (h : RowSt W g t l e) (hb : Below W.heap.size W W') : RowSt W' g t l e := by
  have hlt := h.lt
  obtain ⟨A, c, h1, h2⟩ := h
  exact ⟨A, c, (hb.block g hlt).trans h1, h2.below (hb.mono (Nat.le_of_lt hlt))⟩
theorem RowSt.only {W W' : World} {g g' : Nat} {t : TypeId} {l : List Nat} {e : Int} (h : RowSt W g t l e) (hb : W.grownBy W' (some g')) (hne : g ≠ g') (hlt' : g ≤ g') : RowSt W' g t l e := by
  have hlt := h.lt
  obtain ⟨A, c, h1, h2⟩ := h
  refine ⟨A, c, (hb.block g hlt (fun e => by injection e with e; exact hne e)).trans h1, h2.keep fun p hp => World.cell?_of_block (hb.block p.block (by omega) (fun e => by injection e with e; omega))⟩
theorem RowSt.dr {W : World} {g : Nat} {t : TypeId} {l : List Nat} {e : Int} (h : RowSt W g t l e) : RowSt W.drew g t l e := h
/-- the number, what is left, and what was wrong -/
def NumTo (W : World) (g : Nat) (r : List Nat × List Nat × Int) (E : Ending) (W' : World) : Prop :=
  E = .returned (.int .u64 ((num (r.1.take 8) : Nat) : Int)) ∧ RowSt W' g 72 r.2.1 r.2.2 ∧ W.grownBy W' (some g)
def mayN (n : Int) : Bool := decide (1 ≤ n ∧ n ≤ 8)
theorem mayN_pos {n : Int} (h : mayN n = true) : 0 ≤ n := by
  have := of_decide_eq_true h
  omega
theorem fits_all (n : Int) (w : World) : Calls Try.prog 49 #[.int .i64 n] w fun e w' => e = .returned (.bool (mayN n)) ∧ w = w' := by
  by_cases h : 1 ≤ n ∧ n ≤ 8
  · obtain ⟨m, rfl⟩ : ∃ m : Nat, n = (m : Int) := ⟨n.toNat, by omega⟩
    have e : mayN (m : Int) = true := decide_eq_true h
    rw [e]
    exact fits_yes m (by omega) (by omega) w
  · have e : mayN n = false := decide_eq_false h
    rw [e]
    exact fits_no n (by omega) w
set_option maxHeartbeats 1000000 in
theorem num_any (g : Nat) (l : List Nat) (e n : Int) (W : World) (hst : RowSt W g 72 l e) :
    Calls Try.prog 41 #[.pointer (some ⟨g, 0, none⟩), .int .i64 n] W (NumTo W g (takeS l e n (mayN n))) := by
  have HT := Lib.hid (take_any g l e n (mayN n) W hst mayN_pos)
  clear hst
  go_enter Try.func41, Try.ntmps41
  go_wp2_with fail
  refine (fits_all n _).mono ?_
  rintro E W' ⟨rfl, rfl⟩
  go_wp2_with fail
  refine HT.out.mono ?_
  rintro E W1 ⟨A, c, rfl, hs, hr, hb⟩
  generalize takeS l e n (mayN n) = r at *
  have hx := hs.more (Nat.le_of_lt hr.lt)
  go_wp2_with fail
  refine (get_any A _ c r.1 _ hx).mono ?_
  rintro E W2 ⟨rfl, hb2⟩
  have H : NumTo W g r (.returned (.int .u64 ((num (r.1.take 8) : Nat) : Int))) W2 := ⟨rfl, hr.below hb2, only_trans hb (only_below hb2)⟩
  have HH := Lib.hid H
  clear H hs hr hb hb2 hx HT
  go_wp2
  go_ret
  exact HH.out
def BytesTo (W : World) (g : Nat) (r : List Nat × List Nat × Int) (E : Ending) (W' : World) : Prop :=
  ∃ A c, E = .returned (.slice A r.1.length c) ∧ BS W' W'.heap.size A r.1.length c r.1 ∧ RowSt W' g 72 r.2.1 r.2.2 ∧ W.grownBy W' (some g)
theorem takeS_len (l : List Nat) (e n : Int) (may : Bool) : (takeS l e n may).1.length ≤ l.length := by
  unfold takeS
  split
  · simp
  · split
    · simp
    · split
      · simp
      · rw [List.length_take]; omega
set_option maxHeartbeats 1000000 in
theorem bytes_any (g : Nat) (l : List Nat) (e n : Int) (W : World) (hst : RowSt W g 72 l e) (hl : l.length ≤ 1000) :
    Calls Try.prog 42 #[.pointer (some ⟨g, 0, none⟩), .int .i64 n] W (BytesTo W g (takeS l e n (decide (0 ≤ n)))) := by
  have key : ∀ b : Bool, decide (0 ≤ n) = b → Calls Try.prog 42 #[.pointer (some ⟨g, 0, none⟩), .int .i64 n] W (BytesTo W g (takeS l e n b)) := by
    intro b hb
    have HT := Lib.hid (take_any g l e n b W hst (fun h => of_decide_eq_true (hb.trans h)))
    have hlen := takeS_len l e n b
    cases b
    · have h0 : n < 0 := by have := of_decide_eq_false hb; omega
      have hd := hb
      clear hst hb
      go_enter Try.func42, Try.ntmps42
      go_wp2_with fail
      refine HT.out.mono ?_
      rintro E W1 ⟨A, c, rfl, hs, hr, hb⟩
      generalize takeS l e n false = r at *
      have hx := hs.more (Nat.le_of_lt hr.lt)
      go_wp2_with fail
      refine (bclone_any A _ c r.1 _ hx (by omega)).mono ?_
      rintro E W2 ⟨A2, c2, rfl, hb2, hx2⟩
      have H : BytesTo W g r (.returned (.slice A2 r.1.length c2)) W2 := ⟨A2, c2, rfl, hx2, hr.below hb2, only_trans hb (only_below hb2)⟩
      have HH := Lib.hid H
      clear H hs hr hb hb2 hx hx2 HT
      go_wp2
      go_ret
      exact HH.out
    · have h0 : 0 ≤ n := of_decide_eq_true hb
      clear hst hb
      go_enter Try.func42, Try.ntmps42
      go_wp2_with fail
      refine HT.out.mono ?_
      rintro E W1 ⟨A, c, rfl, hs, hr, hb⟩
      generalize takeS l e n true = r at *
      have hx := hs.more (Nat.le_of_lt hr.lt)
      go_wp2_with fail
      refine (bclone_any A _ c r.1 _ hx (by omega)).mono ?_
      rintro E W2 ⟨A2, c2, rfl, hb2, hx2⟩
      have H : BytesTo W g r (.returned (.slice A2 r.1.length c2)) W2 := ⟨A2, c2, rfl, hx2, hr.below hb2, only_trans hb (only_below hb2)⟩
      have HH := Lib.hid H
      clear H hs hr hb hb2 hx hx2 HT
      go_wp2
      go_ret
      exact HH.out
  exact key _ rfl
set_option maxHeartbeats 400000 in
theorem err_any (g : Nat) (l : List Nat) (e : Int) (W : World) (hst : RowSt W g 72 l e) :
    Calls Try.prog 43 #[.pointer (some ⟨g, 0, none⟩)] W fun E W' => E = .returned (.int .i64 e) ∧ W = W' := by
  obtain ⟨A, c, hg, _⟩ := hst
  have c1 : W.cell? ⟨g, 1, none⟩ = some (.int .i64 e) := blk_cell hg 1
  clear hg
  go_enter Try.func43, Try.ntmps43
  go_wp2
  go_ret
  exact ⟨rfl, rfl⟩
set_option maxHeartbeats 400000 in
theorem err_nil (W : World) : Calls Try.prog 43 #[.pointer none] W fun E W' => E = .returned (.int .i64 2) ∧ W = W' := by
  go_enter Try.func43, Try.ntmps43
  go_wp2
  go_ret
  exact ⟨rfl, rfl⟩
set_option maxHeartbeats 400000 in
theorem take_nil (n : Int) (b : Bool) (W : World) : Calls Try.prog 48 #[.pointer none, .int .i64 n, .bool b] W fun E W' => E = .returned (.slice none 0 0) ∧ W = W' := by
  go_enter Try.func48, Try.ntmps48
  go_wp2
  go_ret
  exact ⟨rfl, rfl⟩
set_option maxHeartbeats 400000 in
theorem num_nil (W : World) : Calls Try.prog 41 #[.pointer none, .int .i64 3] W fun E W' => E = .returned (.int .u64 0) ∧ Below W.heap.size W W' := by
  go_enter Try.func41, Try.ntmps41
  go_wp2_with fail
  refine (fits_all 3 _).mono ?_
  rintro E W' ⟨rfl, rfl⟩
  go_wp2_with fail
  refine (take_nil 3 _ _).mono ?_
  rintro E W' ⟨rfl, rfl⟩
  go_wp2_with fail
  refine (get_any none 0 0 [] _ (BS.nil _ _)).mono ?_
  rintro E W' ⟨rfl, hb⟩
  go_wp2
  go_ret
  exact ⟨rfl, hb⟩
set_option maxHeartbeats 400000 in
theorem bytes_nil (W : World) : Calls Try.prog 42 #[.pointer none, .int .i64 2] W fun E W' => (∃ A c, E = .returned (.slice A 0 c)) ∧ Below W.heap.size W W' := by
  go_enter Try.func42, Try.ntmps42
  go_wp2_with fail
  refine (take_nil 2 _ _).mono ?_
  rintro E W' ⟨rfl, rfl⟩
  go_wp2_with fail
  refine (bclone_any none 0 0 [] _ (BS.nil _ _) (by omega)).mono ?_
  rintro E W' ⟨A, c, rfl, hb, _⟩
  go_wp2
  go_ret
  exact ⟨⟨A, c, rfl⟩, hb⟩
end Go.Proofs.Ytkgmggjlnibgmaa
