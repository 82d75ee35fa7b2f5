/-
  Layer 18: the calls of slot over a page of objects.
-/
import Derived.Test.YtflgcddgocojpaaDoorSlT
namespace Go.Proofs.YtflgcddgocojpaaDoor
open Go.RowKit Go
set_option linter.unusedVariables false
set_option linter.unusedSimpArgs false
set_option maxHeartbeats 1000000

/-- the answer is a page of these objects -/
def PgA (w' : World) (z S : Nat) (l : List Ob) (v : Value) : Prop := ∃ h cc, v = .slice (some ⟨h, 0, none⟩) 256 cc ∧ BS w' w'.heap.size (some ⟨h, 0, none⟩) 256 cc (pageO z l) ∧ OkL z S l
def ansT (v : Value) (k : Int) (e : Int) : Ending := .returned (.tuple #[v, .int .i64 k, .int .i64 e])
def ans2 (v : Value) (e : Int) : Ending := .returned (.tuple #[v, .int .i64 e])
def TkTo (w : World) (z S : Nat) (l : List Ob) (s : Nat) (n : Int) (e : Ending) (w' : World) : Prop :=
  Below w.heap.size w w' ∧ ((fitB z s n = false ∧ e = .returned (.tuple #[.slice none 0 0, .int .i64 0, .int .i64 1])) ∨
  (fitB z s n = true ∧ (∀ j, j < S → freeO l j = false) ∧ e = .returned (.tuple #[.slice none 0 0, .int .i64 0, .int .i64 5])) ∨
  (fitB z s n = true ∧ ∃ k : Nat, k < S ∧ freeO l k = true ∧ (∀ j, j < k → freeO l j = false) ∧ ∃ h cc, e = .returned (.tuple #[.slice (some ⟨h, 0, none⟩) 256 cc, .int .i64 (k : Int), .int .i64 0]) ∧
    BS w' w'.heap.size (some ⟨h, 0, none⟩) 256 cc (pageO z (l.set k (s, zb n.toNat))) ∧ OkL z S (l.set k (s, zb n.toNat))))
theorem zb_ok {z s : Nat} {n : Int} (hf : fitB z s n = true) : OkO z (s, zb n.toNat) := by
  unfold fitB at hf
  rw [Bool.and_eq_true] at hf
  unfold servesB holdsB at hf
  obtain ⟨h1, h2⟩ := hf
  have h1 := of_decide_eq_true h1
  have h2 := of_decide_eq_true h2
  refine ⟨fun i => by show (zb n.toNat).getD i 0 < 256; unfold zb; rw [rep_at]; omega, .inr ⟨h1.1, h1.2, ?_, ?_⟩⟩
  · show 1 ≤ (zb n.toNat).length; simp [zb]; omega
  · show (zb n.toNat).length ≤ z - 8; simp [zb]; omega
theorem free_iffO {l : List Ob} {k : Nat} : freeO l k = true ↔ (oAt l k).1 = 0 := by unfold freeO; rw [decide_eq_true_iff]
theorem take_o (k b q c s : Nat) (n : Int) (l : List Ob) (w : World) (hs64 : s < 2 ^ 64) (hS : SZ w) (hk : k < 8) (hl : OkL (clZ k) (clS k) l) (hs : BS w w.heap.size (some ⟨b, q, none⟩) 256 c (pageO (clZ k) l)) :
    Calls Tryd.prog 12 #[.slice (some ⟨b, q, none⟩) 256 c, .int .i64 (k : Int), .int .u64 (s : Int), .int .i64 n] w (TkTo w (clZ k) (clS k) l s n) := by
  obtain ⟨z1, z2, z3, z4, z5, -⟩ := cl_fits k hk
  have hm := mayP_page (z := clZ k) (S := clS k) (l := l) (by omega) z2 z3 hl
  refine (take18_any k b q c s n _ w hs64 hS hk hs).mono ?_
  rintro e w' (⟨h, _⟩ | ⟨_, h1, h2, h3⟩ | ⟨_, h1, h2, h3, h4⟩ | ⟨_, h1, j, h2, h3, h4, h, cc, h5, h6, h7⟩)
  · rw [hm] at h; cases h
  · exact ⟨h3, .inl ⟨h1, h2⟩⟩
  · exact ⟨h4, .inr (.inl ⟨h1, fun j hj => by rw [← free_o z1 z2 z3 hl hj]; exact h2 j hj, h3⟩)⟩
  · have hf := h3
    unfold freeB at hf
    rw [free_o z1 z2 z3 hl h2] at hf
    have hok := zb_ok h1
    have hs0 : s ≠ 0 := by
      rcases hok.which with ⟨a, b⟩ | ⟨a, _⟩
      · simp [zb] at b
        unfold fitB at h1; rw [Bool.and_eq_true] at h1
        have := of_decide_eq_true h1.2
        omega
      · exact Nat.pos_iff_ne_zero.1 a
    refine ⟨h7, .inr (.inr ⟨h1, j, h2, hf, fun i hi => by rw [← free_o z1 z2 z3 hl (by omega)]; exact h4 i hi, h, cc, h5, ?_, hl.set hok j h2⟩)⟩
    have := h6.bs
    rw [take_page z1 z3 hl.len h2 (free_iffO.1 hf) hs0] at this
    exact this
def FrTo (w : World) (z S : Nat) (l : List Ob) (i : Int) (e : Ending) (w' : World) : Prop :=
  Below w.heap.size w w' ∧ ((hasO l i = false ∧ e = .returned (.tuple #[.slice none 0 0, .int .i64 6])) ∨
  (hasO l i = true ∧ ∃ h cc, e = .returned (.tuple #[.slice (some ⟨h, 0, none⟩) 256 cc, .int .i64 0]) ∧ BS w' w'.heap.size (some ⟨h, 0, none⟩) 256 cc (pageO z (l.set i.toNat (0, []))) ∧ OkL z S (l.set i.toNat (0, []))))
theorem free_any_o (k b q c : Nat) (i : Int) (l : List Ob) (w : World) (hS : SZ w) (hk : k < 8) (hl : OkL (clZ k) (clS k) l) (hs : BS w w.heap.size (some ⟨b, q, none⟩) 256 c (pageO (clZ k) l)) :
    Calls Tryd.prog 13 #[.slice (some ⟨b, q, none⟩) 256 c, .int .i64 (k : Int), .int .i64 i] w (FrTo w (clZ k) (clS k) l i) := by
  obtain ⟨z1, z2, z3, z4, z5, -⟩ := cl_fits k hk
  have hm := mayP_page (z := clZ k) (S := clS k) (l := l) (by omega) z2 z3 hl
  have hh := has_o z1 z2 z3 hl i
  refine (free18_any k b q c i _ w hS hk hs).mono ?_
  rintro e w' (⟨h, _⟩ | ⟨_, h1, h2, h3⟩ | ⟨_, h1, h, cc, h5, h6, h7⟩)
  · rw [hm] at h; cases h
  · exact ⟨h3, .inl ⟨by rw [hh] at h1; simpa using h1, h2⟩⟩
  · have hj : i.toNat < clS k := by obtain ⟨a, b, _⟩ := h1; omega
    refine ⟨h7, .inr ⟨hh.1 h1, h, cc, h5, ?_, hl.set (OkO.free _) _ hj⟩⟩
    have := h6.bs
    rw [free_page z1 z3 hl.len hj] at this
    exact this
def RzTo (w : World) (z S : Nat) (l : List Ob) (i n : Int) (e : Ending) (w' : World) : Prop :=
  Below w.heap.size w w' ∧ ((hasO l i = false ∧ e = .returned (.tuple #[.slice none 0 0, .int .i64 6])) ∨
  (hasO l i = true ∧ holdsB z n = false ∧ e = .returned (.tuple #[.slice none 0 0, .int .i64 1])) ∨
  (hasO l i = true ∧ holdsB z n = true ∧ ∃ h cc, e = .returned (.tuple #[.slice (some ⟨h, 0, none⟩) 256 cc, .int .i64 0]) ∧ BS w' w'.heap.size (some ⟨h, 0, none⟩) 256 cc (pageO z (l.set i.toNat ((oAt l i.toNat).1, padL (oAt l i.toNat).2 n.toNat))) ∧ OkL z S (l.set i.toNat ((oAt l i.toNat).1, padL (oAt l i.toNat).2 n.toNat))))
theorem hasO_at {l : List Ob} {i : Int} (h : hasO l i = true) : 0 ≤ i ∧ i.toNat < l.length ∧ (oAt l i.toNat).1 ≠ 0 := by
  unfold hasO at h
  have := of_decide_eq_true h
  omega
theorem res_o (k b q c : Nat) (i n : Int) (l : List Ob) (w : World) (hS : SZ w) (hk : k < 8) (hl : OkL (clZ k) (clS k) l) (hs : BS w w.heap.size (some ⟨b, q, none⟩) 256 c (pageO (clZ k) l)) :
    Calls Tryd.prog 14 #[.slice (some ⟨b, q, none⟩) 256 c, .int .i64 (k : Int), .int .i64 i, .int .i64 n] w (RzTo w (clZ k) (clS k) l i n) := by
  obtain ⟨z1, z2, z3, z4, z5, -⟩ := cl_fits k hk
  have hm := mayP_page (z := clZ k) (S := clS k) (l := l) (by omega) z2 z3 hl
  have hh := has_o z1 z2 z3 hl i
  refine (resize18_any k b q c i n _ w hS hk hs).mono ?_
  rintro e w' (⟨h, _⟩ | ⟨_, h1, h2, h3⟩ | ⟨_, h1, h2, h3, h4⟩ | ⟨_, h1, h2, h, cc, h5, h6, h7⟩)
  · rw [hm] at h; cases h
  · exact ⟨h3, .inl ⟨by rw [hh] at h1; simpa using h1, h2⟩⟩
  · exact ⟨h4, .inr (.inl ⟨hh.1 h1, h2, h3⟩)⟩
  · have hj : i.toNat < clS k := by obtain ⟨a, b, _⟩ := h1; omega
    obtain ⟨-, -, hs0⟩ := hasO_at (hh.1 h1)
    have hn := of_decide_eq_true h2
    have hok : OkO (clZ k) ((oAt l i.toNat).1, padL (oAt l i.toNat).2 n.toNat) :=
      ⟨padL_byte (hl.at_ _).byte _, .inr ⟨by show 1 ≤ (oAt l i.toNat).1; omega, (hl.at_ _).ser, by show 1 ≤ (padL _ _).length; rw [padL_len]; omega, by show (padL _ _).length ≤ _; rw [padL_len]; omega⟩⟩
    refine ⟨h7, .inr (.inr ⟨hh.1 h1, h2, h, cc, h5, ?_, hl.set hok _ hj⟩)⟩
    have := h6.bs
    rw [ser_o z1 z2 z3 hl hj, res_page z1 z3 hl.len hj (by omega) hs0] at this
    exact this
/-- may bytes be written there? -/
def wrB (l : List Ob) (i at_ : Int) (m : Nat) : Bool := decide (0 ≤ at_ ∧ at_ + (m : Int) ≤ (((oAt l i.toNat).2.length : Nat) : Int))
def WtTo (w : World) (z S : Nat) (l : List Ob) (i at_ : Int) (p : List Nat) (e : Ending) (w' : World) : Prop :=
  Below w.heap.size w w' ∧ ((hasO l i = false ∧ e = .returned (.tuple #[.slice none 0 0, .int .i64 6])) ∨
  (hasO l i = true ∧ wrB l i at_ p.length = false ∧ e = .returned (.tuple #[.slice none 0 0, .int .i64 3])) ∨
  (hasO l i = true ∧ wrB l i at_ p.length = true ∧ ∃ h cc, e = .returned (.tuple #[.slice (some ⟨h, 0, none⟩) 256 cc, .int .i64 0]) ∧ BS w' w'.heap.size (some ⟨h, 0, none⟩) 256 cc (pageO z (l.set i.toNat ((oAt l i.toNat).1, splL (oAt l i.toNat).2 at_.toNat p))) ∧ OkL z S (l.set i.toNat ((oAt l i.toNat).1, splL (oAt l i.toNat).2 at_.toNat p))))
theorem write_o (k b q c : Nat) (i at_ : Int) (Ab : Option Addr) (nb cb : Nat) (p : List Nat) (l : List Ob) (w : World) (hat : at_ ≤ 9223372036854775807) (hS : SZ w) (hk : k < 8) (hl : OkL (clZ k) (clS k) l) (hs : BS w w.heap.size (some ⟨b, q, none⟩) 256 c (pageO (clZ k) l)) (hsb : BS w w.heap.size Ab nb cb p) :
    Calls Tryd.prog 15 #[.slice (some ⟨b, q, none⟩) 256 c, .int .i64 (k : Int), .int .i64 i, .int .i64 at_, .slice Ab nb cb] w (WtTo w (clZ k) (clS k) l i at_ p) := by
  obtain ⟨z1, z2, z3, z4, z5, -⟩ := cl_fits k hk
  have hm := mayP_page (z := clZ k) (S := clS k) (l := l) (by omega) z2 z3 hl
  have hh := has_o z1 z2 z3 hl i
  refine (write18_any k b q c i at_ _ Ab nb cb p w hat hS hk hs hsb).mono ?_
  rintro e w' (⟨h, _⟩ | ⟨_, h1, h2, h3⟩ | ⟨_, h1, h2, h3, h4⟩ | ⟨_, h1, h2, h, cc, h5, h6, h7⟩)
  · rw [hm] at h; cases h
  · exact ⟨h3, .inl ⟨by rw [hh] at h1; simpa using h1, h2⟩⟩
  · have hj : i.toNat < clS k := by obtain ⟨a, b, _⟩ := h1; omega
    unfold szO at h2
    rw [num_o z1 z2 z3 hl hj] at h2
    exact ⟨h4, .inr (.inl ⟨hh.1 h1, by unfold wrB; rw [decide_eq_false_iff_not]; omega, h3⟩)⟩
  · have hj : i.toNat < clS k := by obtain ⟨a, b, _⟩ := h1; omega
    unfold szO at h2
    rw [num_o z1 z2 z3 hl hj] at h2
    obtain ⟨-, -, hs0⟩ := hasO_at (hh.1 h1)
    have hap : at_.toNat + p.length ≤ (oAt l i.toNat).2.length := by omega
    have hok : OkO (clZ k) ((oAt l i.toNat).1, splL (oAt l i.toNat).2 at_.toNat p) := by
      refine ⟨splL_byte hap (hl.at_ _).byte hsb.byte, .inr ⟨by show 1 ≤ (oAt l i.toNat).1; omega, (hl.at_ _).ser, ?_, ?_⟩⟩
      · show 1 ≤ (splL _ _ _).length
        rw [splL_len hap]
        have := len_iff (hl.at_ i.toNat)
        omega
      · show (splL _ _ _).length ≤ _
        rw [splL_len hap]; exact (hl.at_ _).long
    refine ⟨h7, .inr (.inr ⟨hh.1 h1, by unfold wrB; rw [decide_eq_true_iff]; omega, h, cc, h5, ?_, hl.set hok _ hj⟩)⟩
    have := h6.bs
    rw [wr_page z1 z3 hl.len hj hs0 hap (hl.at_ _).long] at this
    exact this
theorem first_eq {f : Nat → Bool} {S k : Nat} {i : Int} (h : FirstAt f S i) (hk : k < S) (h1 : f k = true) (h2 : ∀ j, j < k → f j = false) : i = (k : Int) := by
  rcases h with ⟨_, h⟩ | ⟨m, rfl, hm, h3, h4⟩
  · rw [h k hk] at h1; cases h1
  · rcases Nat.lt_trichotomy m k with e | e | e
    · rw [h2 m e] at h3; cases h3
    · rw [e]
    · rw [h4 k e] at h1; cases h1
theorem first_no {f : Nat → Bool} {S : Nat} {i : Int} (h : FirstAt f S i) (h2 : ∀ j, j < S → f j = false) : i = -1 := by
  rcases h with ⟨e, _⟩ | ⟨m, rfl, hm, h3, h4⟩
  · exact e
  · rw [h2 m hm] at h3; cases h3
/-- a page and its objects stand there -/
structure PSt (w : World) (z S b q c : Nat) (A : Option Addr) (cl : Nat) (l : List Ob) : Prop where
  ok : OkL z S l
  ob : ObV w A S l
  pg : BS w w.heap.size (some ⟨b, q, none⟩) 256 c (pageO z l)
theorem PSt.below {w w' : World} {z S b q c cl : Nat} {A : Option Addr} {l : List Ob} (h : PSt w z S b q c A cl l) (hb : Below w.heap.size w w') : PSt w' z S b q c A cl l :=
  ⟨h.ok, h.ob.below hb, (h.pg.below hb).more hb.size⟩
def StTo (w : World) (z S : Nat) (e : Ending) (w' : World) : Prop := Below w.heap.size w w' ∧ ∃ b q c A cl l, e = .returned (.tuple #[.slice (some ⟨b, q, none⟩) 256 c, .slice A S cl, .bool true]) ∧ PSt w' z S b q c A cl l
end Go.Proofs.YtflgcddgocojpaaDoor
