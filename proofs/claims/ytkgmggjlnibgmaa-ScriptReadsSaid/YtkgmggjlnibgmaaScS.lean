/-
  Package garderoberef27: Parse.
-/
import Derived.Test.YtkgmggjlnibgmaaScK
import Derived.Test.YtkgmggjlnibgmaaScD
namespace Go.Proofs.Ytkgmggjlnibgmaa
open Go.RowKit Go
set_option linter.unusedVariables false
set_option linter.unusedSimpArgs false
set_option maxRecDepth 100000
theorem size_u8b : (Try.prog.info? 5).map (·.size) = some 1 := by kernel_rfl
def cutP (A : Option Addr) (c k : Nat) : Option Addr := if c = k then A else A.map (·.add k)
theorem run_cut2 {P : Program} (t e : TypeId) (ht : P.underlying t = some (.slice e)) (hi : (P.info? e).map (·.size) = some 1) (A : Option Addr) (n c k m : Nat) (hk : k ≤ m) (hm : m ≤ c) (w : World) :
    (Instr.slice t (.slice A n c) (some (.int .i64 (k : Int))) (some (.int .i64 (m : Int))) none).run P w = .ok (.slice (cutP A c k) (m - k) (c - k)) w := by
  obtain ⟨i, hi', hz⟩ := Option.map_eq_some_iff.mp hi
  unfold cutP
  simp [Instr.slice, Instr.sliceBounds, Instr.sliceBound, run_underlying ht, asIntOf, go_sem, sizeOf, typeInfo, hi', hz]
  rw [if_pos hm, if_pos hk]
theorem run_cutAt {P : Program} (t e : TypeId) (ht : P.underlying t = some (.slice e)) (hi : (P.info? e).map (·.size) = some 1) (A : Option Addr) (n c k m : Nat) (hk : k ≤ m) (hm : m ≤ c) (w : World) :
    (Instr.sliceAt t (.slice A n c) (some (.int .i64 (k : Int))) (some (.int .i64 (m : Int))) none).run P w = .ok (.slice (cutP A c k) (m - k) (c - k)) w := by
  simp [Instr.sliceAt, run_underlying ht, run_cut2 t e ht hi A n c k m hk hm]
theorem exec_slice {P : Program} {o : Oper} {a : Act} {w : World} (t : TypeId) (x lo hi : Operand) (ho : o.op = .slice t x (some lo) (some hi) none) (vx vlo vhi v : Value) (hx : a.eval x = vx) (hlo : a.eval lo = vlo) (hhi : a.eval hi = vhi) (hr : (Instr.sliceAt t vx (some vlo) (some vhi) none).run P w = .ok v w) : (execOp a.eval o).run P w = .ok (.value v) w := by
  unfold execOp
  simp [ho, hx, hlo, hhi, hr, Result.andThen]
theorem get_at {w : World} {B bb oo N c : Nat} {b : List Nat} (h : BS w B (some ⟨bb, oo, none⟩) N c b) (s m : Nat) (h1 : 1 ≤ m) (h8 : m ≤ 8) (hs : s + m ≤ N) (W : World) (hW : Below B w W) :
    Calls Try.prog 31 #[.slice (some ⟨bb, oo + s, none⟩) m (c - s)] W fun e w' => e = .returned (.int .u64 ((num ((b.drop s).take m) : Nat) : Int)) ∧ W = w' := by
  have hd := ((h.below hW).drop (k := s) (by omega)).take (k := m) (by omega)
  have hc := h.cap.1
  rw [if_neg (by omega)] at hd
  have e : (some (⟨bb, oo, none⟩ : Addr)).map (·.add s) = some ⟨bb, oo + s, none⟩ := by simp [Go.WideShapes.add_plain]
  rw [e] at hd
  have := refGet_any _ _ _ _ W B hd
  rw [List.take_take, Nat.min_eq_right h8] at this
  exact this
/-- what is parsed: none, or acts in a row of the call's own -/
def RParseTo (w : World) (B : List Nat) (e : Ending) (w' : World) : Prop :=
  Below w.heap.size w w' ∧ ((parseL B = none ∧ e = .returned (.tuple #[.slice none 0 0, .bool false])) ∨ (∃ l v, parseL B = some l ∧ e = .returned (.tuple #[v, .bool true]) ∧ AcO 26 w' w.heap.size w.heap.size v l ∧ l.length * 12 ≤ B.length))
def RpR (w : World) (B : List Nat) (pv v : Value) (wr : World) : Prop :=
  ∃ (p : Nat) (x : Value) (pre : List Ac), pv = .int .i64 (p : Int) ∧ x = v ∧ p ≤ B.length ∧ parseL B = (parseL (B.drop p)).map (pre ++ ·) ∧ pre.length * 12 ≤ p ∧ AcO 26 wr w.heap.size w.heap.size x pre ∧ Below w.heap.size w wr
theorem getD_drop (B : List Nat) (p i : Nat) : (B.drop p).getD i 0 = B.getD (p + i) 0 := by rw [List.getD_eq_getElem?_getD, List.getElem?_drop, ← List.getD_eq_getElem?_getD]
theorem nAt_drop (B : List Nat) (p o : Nat) : nAt (B.drop p) o = num ((B.drop (p + o)).take 2) := by unfold nAt; rw [List.drop_drop]
theorem len_drop (B : List Nat) (p : Nat) : (B.drop p).length = B.length - p := List.length_drop ..
theorem map_app (pre : List Ac) (a : Ac) (o : Option (List Ac)) : ((o.map (a :: ·)).map (pre ++ ·)) = o.map ((pre ++ [a]) ++ ·) := by cases o <;> simp
theorem num2_lt {B : List Nat} (h : byteL B) (o : Nat) : num ((B.drop o).take 2) < 65536 := nAt_lt h o
/-- what the code reckons of the bytes from p on -/
theorem oneP_at (B : List Nat) (p : Nat) (h12 : ¬ B.length - p < 12) (hy : B.getD (p + 1) 0 ≤ 1) (hn : num ((B.drop (p + 10)).take 2) ≤ B.length - p - 12) :
    oneP (B.drop p) = if mayA ⟨(B.getD p 0 : Nat), B.getD (p + 1) 0 == 1, (num ((B.drop (p + 2)).take 2) : Nat), (num ((B.drop (p + 4)).take 2) : Nat), (num ((B.drop (p + 6)).take 2) : Nat), (num ((B.drop (p + 8)).take 2) : Nat), (B.drop (p + 12)).take (num ((B.drop (p + 10)).take 2))⟩ = true
      then some (⟨(B.getD p 0 : Nat), B.getD (p + 1) 0 == 1, (num ((B.drop (p + 2)).take 2) : Nat), (num ((B.drop (p + 4)).take 2) : Nat), (num ((B.drop (p + 6)).take 2) : Nat), (num ((B.drop (p + 8)).take 2) : Nat), (B.drop (p + 12)).take (num ((B.drop (p + 10)).take 2))⟩, B.drop (p + 12 + num ((B.drop (p + 10)).take 2))) else none := by
  have e : headP (B.drop p) = ⟨(B.getD p 0 : Nat), B.getD (p + 1) 0 == 1, (num ((B.drop (p + 2)).take 2) : Nat), (num ((B.drop (p + 4)).take 2) : Nat), (num ((B.drop (p + 6)).take 2) : Nat), (num ((B.drop (p + 8)).take 2) : Nat), (B.drop (p + 12)).take (num ((B.drop (p + 10)).take 2))⟩ := by
    unfold headP
    simp only [getD_drop, nAt_drop, List.drop_drop, Nat.add_zero]
  unfold oneP
  rw [e, nAt_drop, getD_drop, len_drop, if_neg (by omega), if_neg (by omega), List.drop_drop, ← Nat.add_assoc]
theorem oneP_bad (B : List Nat) (p : Nat) (h : B.length - p < 12 ∨ 1 < B.getD (p + 1) 0 ∨ B.length - p - 12 < num ((B.drop (p + 10)).take 2)) : oneP (B.drop p) = none := by
  unfold oneP
  rw [nAt_drop, getD_drop, len_drop]
  by_cases h1 : B.length - p < 12 ∨ 1 < B.getD (p + 1) 0
  · rw [if_pos h1]
  · rw [if_neg h1, if_pos (by omega)]
set_option maxHeartbeats 8000000 in
theorem rparse27_any (A : Option Addr) (N c : Nat) (B : List Nat) (w : World) (hs : BS w w.heap.size A N c B) (hN : N < 1000000) :
    Calls Try.prog 17 #[.slice A N c] w (RParseTo w B) := by
  have HS := Lib.hid hs
  have HL := Lib.hid hs.len
  have HBYT := Lib.hid hs.byte
  have hcap := hs.cap
  have HR : Hid (RpR w B (.int .i64 0) (.slice none 0 0) w) := Lib.hid ⟨0, _, [], rfl, rfl, by omega, by simp, by simp, AcO.nil _ _ _ _, Below.refl _ _⟩
  clear hs
  go_enter Try.func17, Try.ntmps17
  go_wp2_with fail
  go_loopw [5, 4] (fun pv v wr => RpR w B pv v wr) (fun pv _ _ => (N - intOf pv).toNat)
  case atStart => exact HR.out
  case round =>
    clear HR
    obtain ⟨p, v, pre, rfl, rfl, hp, hpar, hpl, hO, hb⟩ := hrel
    have HO := Lib.hid hO
    have HB := Lib.hid hb
    have HPAR := Lib.hid hpar
    clear hO hb hpar
    rw [HL.out] at hp
    by_cases hlt : p < N
    · have hn0 : 0 < N := by omega
      obtain ⟨bb, oo, rfl, hbb, hcell⟩ := HS.out.at_ hn0
      have HCELL := Lib.hid hcell
      clear hcell hn0
      have HNONE : Hid (oneP (B.drop p) = none → parseL B = none) := Lib.hid (fun h => by
        rw [HPAR.out, parseL_none (by rw [len_drop, HL.out]; omega) h]; rfl)
      have HC0 : Hid (∀ W, Below w.heap.size w W → ∀ j, j < N → W.cell? ⟨bb, oo + j, none⟩ = some (.int .u8 ((B.getD j 0 : Nat) : Int))) := Lib.hid (fun W hW j hj => (hW.cell (p := ⟨bb, oo + j, none⟩) hbb).trans (HCELL.out j hj))
      have HF0 : Hid (oneP (B.drop p) = none → RParseTo w B (.returned (.tuple #[.slice none 0 0, .bool false])) wr) := Lib.hid (fun h => ⟨HB.out, .inl ⟨HNONE.out h, rfl⟩⟩)
      have i1 : IntKind.i64.wrap ((N : Int) - (p : Int)) = (N : Int) - (p : Int) := IntWalk.i64_in _ (by omega)
      by_cases h12 : N - p < 12
      · have hI : (N : Int) - (p : Int) < 12 := by omega
        have HF := Lib.hid (HF0.out (oneP_bad B p (.inl (by rw [HL.out]; exact h12))))
        clear HF0 h12
        go_wp2
        exact bodyPost_ret (v := .tuple #[.slice none 0 0, .bool false]) (by simp [results, Try.results17, go_sem]) rfl HF.out
      · have hI : ¬ (N : Int) - (p : Int) < 12 := by omega
        obtain ⟨p1, hp1⟩ : ∃ p1, p1 = p + 1 := ⟨_, rfl⟩
        have e1 : IntKind.i64.wrap ((p : Int) + 1) = (p1 : Int) := (IntWalk.i64_in _ (by omega)).trans (by omega)
        obtain ⟨p2, hp2⟩ : ∃ p2, p2 = p + 2 := ⟨_, rfl⟩
        have e2 : IntKind.i64.wrap ((p : Int) + 2) = (p2 : Int) := (IntWalk.i64_in _ (by omega)).trans (by omega)
        obtain ⟨p4, hp4⟩ : ∃ p4, p4 = p + 4 := ⟨_, rfl⟩
        have e4 : IntKind.i64.wrap ((p : Int) + 4) = (p4 : Int) := (IntWalk.i64_in _ (by omega)).trans (by omega)
        obtain ⟨p6, hp6⟩ : ∃ p6, p6 = p + 6 := ⟨_, rfl⟩
        have e6 : IntKind.i64.wrap ((p : Int) + 6) = (p6 : Int) := (IntWalk.i64_in _ (by omega)).trans (by omega)
        obtain ⟨p8, hp8⟩ : ∃ p8, p8 = p + 8 := ⟨_, rfl⟩
        have e8 : IntKind.i64.wrap ((p : Int) + 8) = (p8 : Int) := (IntWalk.i64_in _ (by omega)).trans (by omega)
        obtain ⟨p10, hp10⟩ : ∃ p10, p10 = p + 10 := ⟨_, rfl⟩
        have e10 : IntKind.i64.wrap ((p : Int) + 10) = (p10 : Int) := (IntWalk.i64_in _ (by omega)).trans (by omega)
        obtain ⟨p12, hp12⟩ : ∃ p12, p12 = p + 12 := ⟨_, rfl⟩
        have e12 : IntKind.i64.wrap ((p : Int) + 12) = (p12 : Int) := (IntWalk.i64_in _ (by omega)).trans (by omega)
        have f1 : (p1 : Int) < (N : Int) := by omega
        have hx0 : B.getD p 0 < 256 := HBYT.out _
        have hx1 : B.getD p1 0 < 256 := HBYT.out _
        have c0 := HC0.out wr HB.out p hlt
        have c1 := HC0.out wr HB.out p1 (by omega)
        by_cases hy : 1 < B.getD p1 0
        · have HF := Lib.hid (HF0.out (oneP_bad B p (.inr (.inl (by rw [← hp1]; exact hy)))))
          clear HF0 hp1 hp2 hp4 hp6 hp8 hp10 hp12
          generalize B.getD p1 0 = x1 at *
          have hyI : (1 : Int) < (x1 : Int) := by omega
          go_wp2
          exact bodyPost_ret (v := .tuple #[.slice none 0 0, .bool false]) (by simp [results, Try.results17, go_sem]) rfl HF.out
        · have hyI : ¬ (1 : Int) < ((B.getD p1 0 : Nat) : Int) := by omega
          have HGN : Hid (∀ W, Below wr.heap.size wr W → Calls Try.prog 31 #[.slice (some ⟨bb, oo + p10, none⟩) 2 (c - p10)] W fun e w' => e = .returned (.int .u64 ((num ((B.drop p10).take 2) : Nat) : Int)) ∧ W = w') := Lib.hid (fun W hW => get_at HS.out p10 2 (by omega) (by omega) (by omega) W (HB.out.trans (hW.mono HB.out.size)))
          have HG2 : Hid (∀ W, Below wr.heap.size wr W → Calls Try.prog 31 #[.slice (some ⟨bb, oo + p2, none⟩) 2 (c - p2)] W fun e w' => e = .returned (.int .u64 ((num ((B.drop p2).take 2) : Nat) : Int)) ∧ W = w') := Lib.hid (fun W hW => get_at HS.out p2 2 (by omega) (by omega) (by omega) W (HB.out.trans (hW.mono HB.out.size)))
          have HG4 : Hid (∀ W, Below wr.heap.size wr W → Calls Try.prog 31 #[.slice (some ⟨bb, oo + p4, none⟩) 2 (c - p4)] W fun e w' => e = .returned (.int .u64 ((num ((B.drop p4).take 2) : Nat) : Int)) ∧ W = w') := Lib.hid (fun W hW => get_at HS.out p4 2 (by omega) (by omega) (by omega) W (HB.out.trans (hW.mono HB.out.size)))
          have HG6 : Hid (∀ W, Below wr.heap.size wr W → Calls Try.prog 31 #[.slice (some ⟨bb, oo + p6, none⟩) 2 (c - p6)] W fun e w' => e = .returned (.int .u64 ((num ((B.drop p6).take 2) : Nat) : Int)) ∧ W = w') := Lib.hid (fun W hW => get_at HS.out p6 2 (by omega) (by omega) (by omega) W (HB.out.trans (hW.mono HB.out.size)))
          have HG8 : Hid (∀ W, Below wr.heap.size wr W → Calls Try.prog 31 #[.slice (some ⟨bb, oo + p8, none⟩) 2 (c - p8)] W fun e w' => e = .returned (.int .u64 ((num ((B.drop p8).take 2) : Nat) : Int)) ∧ W = w') := Lib.hid (fun W hW => get_at HS.out p8 2 (by omega) (by omega) (by omega) W (HB.out.trans (hW.mono HB.out.size)))
          have HONE : Hid (num ((B.drop p10).take 2) ≤ N - p - 12 → oneP (B.drop p) = if mayA ⟨(B.getD p 0 : Nat), B.getD p1 0 == 1, (num ((B.drop p2).take 2) : Nat), (num ((B.drop p4).take 2) : Nat), (num ((B.drop p6).take 2) : Nat), (num ((B.drop p8).take 2) : Nat), (B.drop p12).take (num ((B.drop p10).take 2))⟩ = true then some (⟨(B.getD p 0 : Nat), B.getD p1 0 == 1, (num ((B.drop p2).take 2) : Nat), (num ((B.drop p4).take 2) : Nat), (num ((B.drop p6).take 2) : Nat), (num ((B.drop p8).take 2) : Nat), (B.drop p12).take (num ((B.drop p10).take 2))⟩, B.drop (p12 + num ((B.drop p10).take 2))) else none) := Lib.hid (fun h => by
            have := oneP_at B p (by rw [HL.out]; exact h12) (by rw [← hp1]; omega) (by rw [← hp10, HL.out]; exact h)
            rw [← hp1, ← hp2, ← hp4, ← hp6, ← hp8, ← hp10, ← hp12] at this
            exact this)
          have HBAD : Hid (N - p - 12 < num ((B.drop p10).take 2) → oneP (B.drop p) = none) := Lib.hid (fun h => oneP_bad B p (.inr (.inr (by rw [← hp10, HL.out]; exact h))))
          have HQ : Hid (∀ n, n ≤ N - p - 12 → BS w w.heap.size (cutP (some ⟨bb, oo, none⟩) c p12) n (c - p12) ((B.drop p12).take n)) := Lib.hid (fun n hn => (HS.out.drop (k := p12) (by omega)).take (by omega))
          have HZQ : Hid (cutP (some (⟨bb, oo, none⟩ : Addr)) c p12 = none → c - p12 = 0) := Lib.hid (by unfold cutP; split <;> intro h <;> simp at h)
          have hx2 : num ((B.drop p2).take 2) < 65536 := num2_lt HBYT.out p2
          have hx4 : num ((B.drop p4).take 2) < 65536 := num2_lt HBYT.out p4
          have hx6 : num ((B.drop p6).take 2) < 65536 := num2_lt HBYT.out p6
          have hx8 : num ((B.drop p8).take 2) < 65536 := num2_lt HBYT.out p8
          have hx10 : num ((B.drop p10).take 2) < 65536 := num2_lt HBYT.out p10
          have HPP : Hid (p1 = p + 1 ∧ p2 = p + 2 ∧ p4 = p + 4 ∧ p6 = p + 6 ∧ p8 = p + 8 ∧ p10 = p + 10 ∧ p12 = p + 12) := Lib.hid ⟨hp1, hp2, hp4, hp6, hp8, hp10, hp12⟩
          have f2 : (p2 : Int) ≤ (p4 : Int) := by omega
          have f4 : (p4 : Int) ≤ (p6 : Int) := by omega
          have f6 : (p6 : Int) ≤ (p8 : Int) := by omega
          have f8 : (p8 : Int) ≤ (p10 : Int) := by omega
          have f10 : (p10 : Int) ≤ (p12 : Int) := by omega
          have j4 : (p4 : Int) ≤ (c : Int) := by omega
          have j6 : (p6 : Int) ≤ (c : Int) := by omega
          have j8 : (p8 : Int) ≤ (c : Int) := by omega
          have j10 : (p10 : Int) ≤ (c : Int) := by omega
          have j12 : (p12 : Int) ≤ (c : Int) := by omega
          have g2 : ¬ c = p2 := by omega
          have g4 : ¬ c = p4 := by omega
          have g6 : ¬ c = p6 := by omega
          have g8 : ¬ c = p8 := by omega
          have g10 : ¬ c = p10 := by omega
          have d2 : p4 - p2 = 2 := by omega
          have d4 : p6 - p4 = 2 := by omega
          have d6 : p8 - p6 = 2 := by omega
          have d8 : p10 - p8 = 2 := by omega
          have d10 : p12 - p10 = 2 := by omega
          have HC2 : Hid (∀ W, Below wr.heap.size wr W → W.cell? ⟨bb, oo + p, none⟩ = some (.int .u8 ((B.getD p 0 : Nat) : Int)) ∧ W.cell? ⟨bb, oo + p1, none⟩ = some (.int .u8 ((B.getD p1 0 : Nat) : Int))) := Lib.hid (fun W hW => ⟨HC0.out W (HB.out.trans (hW.mono HB.out.size)) p hlt, HC0.out W (HB.out.trans (hW.mono HB.out.size)) p1 (by omega)⟩)
          have hyb : ((((B.getD p1 0 : Nat) : Int)) == 1) = (B.getD p1 0 == 1) := by
            rw [Bool.eq_iff_iff, beq_iff_eq, beq_iff_eq]; omega
          clear hp1 hp2 hp4 hp6 hp8 hp10 hp12
          generalize (B.getD p1 0 == 1) = yb at *
          generalize B.getD p 0 = x0 at *
          generalize B.getD p1 0 = x1 at *
          generalize num ((B.drop p2).take 2) = x2 at *
          generalize num ((B.drop p4).take 2) = x4 at *
          generalize num ((B.drop p6).take 2) = x6 at *
          generalize num ((B.drop p8).take 2) = x8 at *
          generalize num ((B.drop p10).take 2) = nn at *
          go_upto_region 6 with (fail)
          go_wp2_with fail
          refine (HGN.out _ (Below.refl _ _)).mono ?_
          rintro e wg ⟨rfl, rfl⟩
          clear c0 c1
          by_cases hnn : N - p - 12 < nn
          · have HF := Lib.hid (HF0.out (HBAD.out hnn))
            have k1 : IntKind.i64.wrap ((N : Int) - (p : Int) - 12) = (N : Int) - (p : Int) - 12 := IntWalk.i64_in _ (by omega)
            have hnI : (N : Int) - (p : Int) - 12 < (nn : Int) := by omega
            clear HF0
            go_wp2
            exact bodyPost_ret (v := .tuple #[.slice none 0 0, .bool false]) (by simp [results, Try.results17, go_sem]) rfl HF.out
          · have k1 : IntKind.i64.wrap ((N : Int) - (p : Int) - 12) = (N : Int) - (p : Int) - 12 := IntWalk.i64_in _ (by omega)
            have hnI : ¬ (N : Int) - (p : Int) - 12 < (nn : Int) := by omega
            have hpp := HPP.out
            obtain ⟨q, hq⟩ : ∃ q, q = p12 + nn := ⟨_, rfl⟩
            have eq : IntKind.i64.wrap ((p12 : Int) + (nn : Int)) = (q : Int) := (IntWalk.i64_in _ (by omega)).trans (by omega)
            have HONE2 := Lib.hid (HONE.out (by omega))
            obtain ⟨A5, hA5⟩ : ∃ A5, A5 = cutP (some (⟨bb, oo, none⟩ : Addr)) c p12 := ⟨_, rfl⟩
            obtain ⟨c5, hc5⟩ : ∃ c5, c5 = c - p12 := ⟨_, rfl⟩
            have HCUT : Hid (∀ W, (Instr.sliceAt 24 (.slice (some ⟨bb, oo, none⟩) N c) (some (.int .i64 (p12 : Int))) (some (.int .i64 (q : Int))) none).run Try.prog W = .ok (.slice A5 nn c5) W) := Lib.hid (fun W => by
              have := run_cutAt 24 5 Try.underlying24 size_u8b (some ⟨bb, oo, none⟩) N c p12 q (by omega) (by omega) W
              rw [← hA5, ← hc5, show q - p12 = nn by omega] at this
              exact this)
            have HQ5 : Hid (BS w w.heap.size A5 nn c5 ((B.drop p12).take nn)) := Lib.hid (by rw [hA5, hc5]; exact HQ.out nn (by omega))
            have HZ5 : Hid (A5 = none → c5 = 0) := Lib.hid (by rw [hA5, hc5]; exact HZQ.out)
            have HNX : Hid (mayA ⟨(x0 : Nat), yb, (x2 : Nat), (x4 : Nat), (x6 : Nat), (x8 : Nat), (B.drop p12).take nn⟩ = true → ∀ v' w', AcO 26 w' w.heap.size w.heap.size v' (pre ++ [⟨(x0 : Nat), yb, (x2 : Nat), (x4 : Nat), (x6 : Nat), (x8 : Nat), (B.drop p12).take nn⟩]) → Below w.heap.size w w' → RpR w B (.int .i64 (q : Int)) v' w') := Lib.hid (fun hm v' w' h1 h2 => ⟨q, v', _, rfl, rfl, by rw [HL.out]; omega, by
              have h9 := HONE2.out
              rw [if_pos hm] at h9
              rw [HPAR.out, parseL_some h9, map_app, hq], by rw [List.length_append]; simp; omega, h1, h2⟩)
            have HNO : Hid (mayA ⟨(x0 : Nat), yb, (x2 : Nat), (x4 : Nat), (x6 : Nat), (x8 : Nat), (B.drop p12).take nn⟩ = false → oneP (B.drop p) = none) := Lib.hid (fun hm => by
              have h9 := HONE2.out
              rw [if_neg (by rw [hm]; simp)] at h9
              exact h9)
            have HM5 : Hid (q - p = 12 + nn ∧ p < q ∧ q ≤ N) := Lib.hid (by omega)
            have HTL : Hid (pre.length < 100000) := Lib.hid (by omega)
            clear HONE HONE2 HBAD HQ HZQ hpp hq hA5 hc5 HPP HC0 HF0
            obtain ⟨bs, hbs⟩ : ∃ bs, (B.drop p12).take nn = bs := ⟨_, rfl⟩
            rw [hbs] at HQ5 HNX HNO
            clear hbs
            have HMAY : Hid (∀ W, Below wr.heap.size wr W → Calls Try.prog 10 #[.agg #[.int .i64 (x0 : Int), .bool yb, .int .i64 (x2 : Int), .int .i64 (x4 : Int), .int .i64 (x6 : Int), .int .i64 (x8 : Int), .slice A5 nn c5]] W (fun e w' => e = .returned (.bool (mayA ⟨(x0 : Nat), yb, (x2 : Nat), (x4 : Nat), (x6 : Nat), (x8 : Nat), bs⟩)) ∧ Below W.heap.size W w')) := Lib.hid (fun W hW => rmay_any _ _ _ _ _ _ A5 nn c5 bs HQ5.out.len (by omega) W)
            have HK : Hid (∀ W, Below wr.heap.size wr W → W.cell? ⟨bb, oo + p, none⟩ = some (.int .u8 (x0 : Int)) ∧ W.cell? ⟨bb, oo + p1, none⟩ = some (.int .u8 (x1 : Int)) ∧ Below wr.heap.size wr W) := Lib.hid (fun W hW => ⟨(HC2.out W hW).1, (HC2.out W hW).2, hW⟩)
            clear HC2
            generalize mayA ⟨(x0 : Nat), yb, (x2 : Nat), (x4 : Nat), (x6 : Nat), (x8 : Nat), bs⟩ = R at *
            clear hx1 hy hyI
            go_upto_region 9 with (fail)
            refine wp_region_F (S := (fun w' => w'.cell? ⟨bb, oo + p, none⟩ = some (.int .u8 (x0 : Int)) ∧ w'.cell? ⟨bb, oo + p1, none⟩ = some (.int .u8 (x1 : Int)) ∧ Below wr.heap.size wr w')) [] (by kernel_rfl) (HK.out _ ((Below.refl _ _).drew)) (fun hHeld => ?_)
            refine wpAnyF_take (i := 0) (oi := _) (v := ?_) rfl (by kernel_rfl) (by kernel_rfl) (by kernel_rfl) (by kernel_rfl) (fun _ _ _ h => h) (Or.inl ⟨by rfl, ?_⟩) (by assumption) ?_
            rotate_left 1
            · intro w hSw
              (try dsimp only at hSw)
              (first | (go_simp; done) | (go_simp; with_reducible rfl))
            (try simp only [Act.put, List.getElem_toArray, List.getElem_cons_succ, List.getElem_cons_zero, List.setIfInBounds_toArray, List.set_cons_zero, List.set_cons_succ])
            refine wpAnyF_take (i := 1) (oi := _) (v := ?_) rfl (by kernel_rfl) (by kernel_rfl) (by kernel_rfl) (by kernel_rfl) (fun _ _ _ h => h) (Or.inl ⟨by rfl, ?_⟩) (by assumption) ?_
            rotate_left 1
            · intro w hSw
              (try dsimp only at hSw)
              (first | (go_simp; done) | (go_simp; with_reducible rfl))
            (try simp only [Act.put, List.getElem_toArray, List.getElem_cons_succ, List.getElem_cons_zero, List.setIfInBounds_toArray, List.set_cons_zero, List.set_cons_succ])
            refine wpAnyF_take (i := 2) (oi := _) (v := ?_) rfl (by kernel_rfl) (by kernel_rfl) (by kernel_rfl) (by kernel_rfl) (fun _ _ _ h => h) (Or.inl ⟨by rfl, ?_⟩) (by assumption) ?_
            rotate_left 1
            · intro w hSw
              (try dsimp only at hSw)
              (first | (go_simp; done) | (go_simp; with_reducible rfl))
            (try simp only [Act.put, List.getElem_toArray, List.getElem_cons_succ, List.getElem_cons_zero, List.setIfInBounds_toArray, List.set_cons_zero, List.set_cons_succ])
            refine wpAnyF_take (i := 3) (oi := _) (v := ?_) rfl (by kernel_rfl) (by kernel_rfl) (by kernel_rfl) (by kernel_rfl) (fun _ _ _ h => h) (Or.inl ⟨by rfl, ?_⟩) (by assumption) ?_
            rotate_left 1
            · intro w hSw
              (try dsimp only at hSw)
              (first | (go_simp; done) | (go_simp; with_reducible rfl))
            (try simp only [Act.put, List.getElem_toArray, List.getElem_cons_succ, List.getElem_cons_zero, List.setIfInBounds_toArray, List.set_cons_zero, List.set_cons_succ])
            refine wpAnyF_take (i := 4) (oi := _) (v := ?_) rfl (by kernel_rfl) (by kernel_rfl) (by kernel_rfl) (by kernel_rfl) (fun _ _ _ h => h) (Or.inl ⟨by rfl, ?_⟩) (by assumption) ?_
            rotate_left 1
            · intro w hSw
              (try dsimp only at hSw)
              (first | (go_simp; done) | (go_simp; with_reducible rfl))
            (try simp only [Act.put, List.getElem_toArray, List.getElem_cons_succ, List.getElem_cons_zero, List.setIfInBounds_toArray, List.set_cons_zero, List.set_cons_succ])
            refine wpAnyF_take (i := 5) (oi := _) (v := ?_) rfl (by kernel_rfl) (by kernel_rfl) (by kernel_rfl) (by kernel_rfl) (fun _ _ _ h => h) (Or.inl ⟨by rfl, ?_⟩) (by assumption) ?_
            rotate_left 1
            · intro w hSw
              (try dsimp only at hSw)
              (first | (go_simp; done) | (go_simp; with_reducible rfl))
            (try simp only [Act.put, List.getElem_toArray, List.getElem_cons_succ, List.getElem_cons_zero, List.setIfInBounds_toArray, List.set_cons_zero, List.set_cons_succ])
            refine wpAnyF_take (i := 6) (oi := _) (v := ?_) rfl (by kernel_rfl) (by kernel_rfl) (by kernel_rfl) (by kernel_rfl) (fun _ _ _ h => h) (Or.inl ⟨by rfl, ?_⟩) (by assumption) ?_
            rotate_left 1
            · intro w hSw
              (try dsimp only at hSw)
              (first | (go_simp; done) | (go_simp; with_reducible rfl))
            (try simp only [Act.put, List.getElem_toArray, List.getElem_cons_succ, List.getElem_cons_zero, List.setIfInBounds_toArray, List.set_cons_zero, List.set_cons_succ])
            refine wpAnyF_take (i := 7) (oi := _) (v := ?_) rfl (by kernel_rfl) (by kernel_rfl) (by kernel_rfl) (by kernel_rfl) (fun _ _ _ h => h) (Or.inl ⟨by rfl, ?_⟩) (by assumption) ?_
            rotate_left 1
            · intro w hSw
              (try dsimp only at hSw)
              (first | (go_simp; done) | (go_simp; with_reducible rfl))
            (try simp only [Act.put, List.getElem_toArray, List.getElem_cons_succ, List.getElem_cons_zero, List.setIfInBounds_toArray, List.set_cons_zero, List.set_cons_succ])
            refine wpAnyF_take (i := 8) (oi := _) (v := ?_) rfl (by kernel_rfl) (by kernel_rfl) (by kernel_rfl) (by kernel_rfl) (fun _ _ _ h => h) (Or.inl ⟨by rfl, ?_⟩) (by assumption) ?_
            rotate_left 1
            · intro w hSw
              (try dsimp only at hSw)
              (first | (go_simp; done) | (go_simp; with_reducible rfl))
            (try simp only [Act.put, List.getElem_toArray, List.getElem_cons_succ, List.getElem_cons_zero, List.setIfInBounds_toArray, List.set_cons_zero, List.set_cons_succ])
            refine wpAnyF_take (i := 9) (oi := _) (v := ?_) rfl (by kernel_rfl) (by kernel_rfl) (by kernel_rfl) (by kernel_rfl) (fun _ _ _ h => h) (Or.inl ⟨by rfl, ?_⟩) (by assumption) ?_
            rotate_left 1
            · intro w hSw
              (try dsimp only at hSw)
              (first | (go_simp; done) | (go_simp; with_reducible rfl))
            (try simp only [Act.put, List.getElem_toArray, List.getElem_cons_succ, List.getElem_cons_zero, List.setIfInBounds_toArray, List.set_cons_zero, List.set_cons_succ])
            refine wpAnyF_take (i := 10) (oi := _) (v := ?_) rfl (by kernel_rfl) (by kernel_rfl) (by kernel_rfl) (by kernel_rfl) (fun _ _ _ h => h) (Or.inl ⟨by rfl, ?_⟩) (by assumption) ?_
            rotate_left 1
            · intro w hSw
              (try dsimp only at hSw)
              (first | (go_simp; done) | (go_simp; with_reducible rfl))
            (try simp only [Act.put, List.getElem_toArray, List.getElem_cons_succ, List.getElem_cons_zero, List.setIfInBounds_toArray, List.set_cons_zero, List.set_cons_succ])
            refine wpAnyF_take (i := 11) (oi := _) (v := ?_) rfl (by kernel_rfl) (by kernel_rfl) (by kernel_rfl) (by kernel_rfl) (fun _ _ _ h => h) (Or.inl ⟨by rfl, ?_⟩) (by assumption) ?_
            rotate_left 1
            · intro w hSw
              (try dsimp only at hSw)
              (first | (go_simp; done) | (go_simp; with_reducible rfl))
            (try simp only [Act.put, List.getElem_toArray, List.getElem_cons_succ, List.getElem_cons_zero, List.setIfInBounds_toArray, List.set_cons_zero, List.set_cons_succ])
            refine wpAnyF_take (i := 12) (oi := _) (v := ?_) rfl (by kernel_rfl) (by kernel_rfl) (by kernel_rfl) (by kernel_rfl) (fun _ _ _ h => h) (Or.inl ⟨by rfl, ?_⟩) (by assumption) ?_
            rotate_left 1
            · intro w hSw
              (try dsimp only at hSw)
              (first | (go_simp; done) | (go_simp; with_reducible rfl))
            (try simp only [Act.put, List.getElem_toArray, List.getElem_cons_succ, List.getElem_cons_zero, List.setIfInBounds_toArray, List.set_cons_zero, List.set_cons_succ])
            refine wpAnyF_take (i := 13) (oi := _) (v := ?_) rfl (by kernel_rfl) (by kernel_rfl) (by kernel_rfl) (by kernel_rfl) (fun _ _ _ h => h) (Or.inl ⟨by rfl, ?_⟩) (by assumption) ?_
            rotate_left 1
            · intro w hSw
              (try dsimp only at hSw)
              (first | (go_simp; done) | (go_simp; with_reducible rfl))
            (try simp only [Act.put, List.getElem_toArray, List.getElem_cons_succ, List.getElem_cons_zero, List.setIfInBounds_toArray, List.set_cons_zero, List.set_cons_succ])
            refine wpAnyF_take (i := 14) (oi := _) (v := ?_) rfl (by kernel_rfl) (by kernel_rfl) (by kernel_rfl) (by kernel_rfl) (fun _ _ _ h => h) (Or.inl ⟨by rfl, ?_⟩) (by assumption) ?_
            rotate_left 1
            · intro w hSw
              (try dsimp only at hSw)
              (first | (go_simp; done) | (go_simp; with_reducible rfl))
            (try simp only [Act.put, List.getElem_toArray, List.getElem_cons_succ, List.getElem_cons_zero, List.setIfInBounds_toArray, List.set_cons_zero, List.set_cons_succ])
            refine wpAnyF_take (i := 15) (oi := _) (v := ?_) rfl (by kernel_rfl) (by kernel_rfl) (by kernel_rfl) (by kernel_rfl) (fun _ _ _ h => h) (Or.inl ⟨by rfl, ?_⟩) (by assumption) ?_
            rotate_left 1
            · intro w hSw
              (try dsimp only at hSw)
              (first | (go_simp; done) | (go_simp; with_reducible rfl))
            (try simp only [Act.put, List.getElem_toArray, List.getElem_cons_succ, List.getElem_cons_zero, List.setIfInBounds_toArray, List.set_cons_zero, List.set_cons_succ])
            refine wpAnyF_take (i := 16) (oi := _) (v := ?_) rfl (by kernel_rfl) (by kernel_rfl) (by kernel_rfl) (by kernel_rfl) (fun _ _ _ h => h) (Or.inl ⟨by rfl, ?_⟩) (by assumption) ?_
            rotate_left 1
            · intro w hSw
              (try dsimp only at hSw)
              (first | (go_simp; done) | (go_simp; with_reducible rfl))
            (try simp only [Act.put, List.getElem_toArray, List.getElem_cons_succ, List.getElem_cons_zero, List.setIfInBounds_toArray, List.set_cons_zero, List.set_cons_succ])
            refine wpAnyF_take (i := 19) (oi := _) (v := ?_) rfl (by kernel_rfl) (by kernel_rfl) (by kernel_rfl) (by kernel_rfl) (fun _ _ _ h => h) (Or.inl ⟨by rfl, ?_⟩) (by assumption) ?_
            rotate_left 1
            · intro w hSw
              (try dsimp only at hSw)
              (first | (go_simp; done) | (go_simp; with_reducible rfl))
            (try simp only [Act.put, List.getElem_toArray, List.getElem_cons_succ, List.getElem_cons_zero, List.setIfInBounds_toArray, List.set_cons_zero, List.set_cons_succ])
            refine wpAnyF_take (i := 20) (oi := _) (v := ?_) rfl (by kernel_rfl) (by kernel_rfl) (by kernel_rfl) (by kernel_rfl) (fun _ _ _ h => h) (Or.inl ⟨by rfl, ?_⟩) (by assumption) ?_
            rotate_left 1
            · intro w hSw
              (try dsimp only at hSw)
              (first | (go_simp; done) | (go_simp; with_reducible rfl))
            (try simp only [Act.put, List.getElem_toArray, List.getElem_cons_succ, List.getElem_cons_zero, List.setIfInBounds_toArray, List.set_cons_zero, List.set_cons_succ])
            refine wpAnyF_take (i := 21) (oi := _) (v := ?_) rfl (by kernel_rfl) (by kernel_rfl) (by kernel_rfl) (by kernel_rfl) (fun _ _ _ h => h) (Or.inl ⟨by rfl, ?_⟩) (by assumption) ?_
            rotate_left 1
            · intro w hSw
              (try dsimp only at hSw)
              (first | (go_simp; done) | (go_simp; with_reducible rfl))
            (try simp only [Act.put, List.getElem_toArray, List.getElem_cons_succ, List.getElem_cons_zero, List.setIfInBounds_toArray, List.set_cons_zero, List.set_cons_succ])
            refine wpAnyF_take (i := 22) (oi := _) (v := ?_) rfl (by kernel_rfl) (by kernel_rfl) (by kernel_rfl) (by kernel_rfl) (fun _ _ _ h => h) (Or.inl ⟨by rfl, ?_⟩) (by assumption) ?_
            rotate_left 1
            · intro w hSw
              (try dsimp only at hSw)
              (first | (go_simp; done) | (go_simp; with_reducible rfl))
            (try simp only [Act.put, List.getElem_toArray, List.getElem_cons_succ, List.getElem_cons_zero, List.setIfInBounds_toArray, List.set_cons_zero, List.set_cons_succ])
            refine wpAnyF_take (i := 23) (oi := _) (v := ?_) rfl (by kernel_rfl) (by kernel_rfl) (by kernel_rfl) (by kernel_rfl) (fun _ _ _ h => h) (Or.inl ⟨by rfl, ?_⟩) (by assumption) ?_
            rotate_left 1
            · intro w hSw
              (try dsimp only at hSw)
              (first | (go_simp; done) | (go_simp; with_reducible rfl))
            (try simp only [Act.put, List.getElem_toArray, List.getElem_cons_succ, List.getElem_cons_zero, List.setIfInBounds_toArray, List.set_cons_zero, List.set_cons_succ])
            refine wpAnyF_take (i := 24) (oi := _) (v := ?_) rfl (by kernel_rfl) (by kernel_rfl) (by kernel_rfl) (by kernel_rfl) (fun _ _ _ h => h) (Or.inl ⟨by rfl, ?_⟩) (by assumption) ?_
            rotate_left 1
            · intro w hSw
              (try dsimp only at hSw)
              (first | (go_simp; done) | (go_simp; with_reducible rfl))
            (try simp only [Act.put, List.getElem_toArray, List.getElem_cons_succ, List.getElem_cons_zero, List.setIfInBounds_toArray, List.set_cons_zero, List.set_cons_succ])
            refine wpAnyF_take (i := 27) (oi := _) (v := ?_) rfl (by kernel_rfl) (by kernel_rfl) (by kernel_rfl) (by kernel_rfl) (fun _ _ _ h => h) (Or.inl ⟨by rfl, ?_⟩) (by assumption) ?_
            rotate_left 1
            · intro w hSw
              (try dsimp only at hSw)
              (first | (go_simp; done) | (go_simp; with_reducible rfl))
            (try simp only [Act.put, List.getElem_toArray, List.getElem_cons_succ, List.getElem_cons_zero, List.setIfInBounds_toArray, List.set_cons_zero, List.set_cons_succ])
            refine wpAnyF_take (i := 28) (oi := _) (v := ?_) rfl (by kernel_rfl) (by kernel_rfl) (by kernel_rfl) (by kernel_rfl) (fun _ _ _ h => h) (Or.inl ⟨by rfl, ?_⟩) (by assumption) ?_
            rotate_left 1
            · intro w hSw
              (try dsimp only at hSw)
              (first | (go_simp; done) | (go_simp; with_reducible rfl))
            (try simp only [Act.put, List.getElem_toArray, List.getElem_cons_succ, List.getElem_cons_zero, List.setIfInBounds_toArray, List.set_cons_zero, List.set_cons_succ])
            refine wpAnyF_take (i := 29) (oi := _) (v := ?_) rfl (by kernel_rfl) (by kernel_rfl) (by kernel_rfl) (by kernel_rfl) (fun _ _ _ h => h) (Or.inl ⟨by rfl, ?_⟩) (by assumption) ?_
            rotate_left 1
            · intro w hSw
              (try dsimp only at hSw)
              (first | (go_simp; done) | (go_simp; with_reducible rfl))
            (try simp only [Act.put, List.getElem_toArray, List.getElem_cons_succ, List.getElem_cons_zero, List.setIfInBounds_toArray, List.set_cons_zero, List.set_cons_succ])
            refine wpAnyF_take (i := 30) (oi := _) (v := ?_) rfl (by kernel_rfl) (by kernel_rfl) (by kernel_rfl) (by kernel_rfl) (fun _ _ _ h => h) (Or.inl ⟨by rfl, ?_⟩) (by assumption) ?_
            rotate_left 1
            · intro w hSw
              (try dsimp only at hSw)
              (first | (go_simp; done) | (go_simp; with_reducible rfl))
            (try simp only [Act.put, List.getElem_toArray, List.getElem_cons_succ, List.getElem_cons_zero, List.setIfInBounds_toArray, List.set_cons_zero, List.set_cons_succ])
            refine wpAnyF_take (i := 31) (oi := _) (v := ?_) rfl (by kernel_rfl) (by kernel_rfl) (by kernel_rfl) (by kernel_rfl) (fun _ _ _ h => h) (Or.inl ⟨by rfl, ?_⟩) (by assumption) ?_
            rotate_left 1
            · intro w hSw
              (try dsimp only at hSw)
              (first | (go_simp; done) | (go_simp; with_reducible rfl))
            (try simp only [Act.put, List.getElem_toArray, List.getElem_cons_succ, List.getElem_cons_zero, List.setIfInBounds_toArray, List.set_cons_zero, List.set_cons_succ])
            refine wpAnyF_take (i := 32) (oi := _) (v := ?_) rfl (by kernel_rfl) (by kernel_rfl) (by kernel_rfl) (by kernel_rfl) (fun _ _ _ h => h) (Or.inl ⟨by rfl, ?_⟩) (by assumption) ?_
            rotate_left 1
            · intro w hSw
              (try dsimp only at hSw)
              (first | (go_simp; done) | (go_simp; with_reducible rfl))
            (try simp only [Act.put, List.getElem_toArray, List.getElem_cons_succ, List.getElem_cons_zero, List.setIfInBounds_toArray, List.set_cons_zero, List.set_cons_succ])
            refine wpAnyF_take (i := 35) (oi := _) (v := ?_) rfl (by kernel_rfl) (by kernel_rfl) (by kernel_rfl) (by kernel_rfl) (fun _ _ _ h => h) (Or.inl ⟨by rfl, ?_⟩) (by assumption) ?_
            rotate_left 1
            · intro w hSw
              (try dsimp only at hSw)
              (first | (go_simp; done) | (go_simp; with_reducible rfl))
            (try simp only [Act.put, List.getElem_toArray, List.getElem_cons_succ, List.getElem_cons_zero, List.setIfInBounds_toArray, List.set_cons_zero, List.set_cons_succ])
            refine wpAnyF_take (i := 36) (oi := _) (v := ?_) rfl (by kernel_rfl) (by kernel_rfl) (by kernel_rfl) (by kernel_rfl) (fun _ _ _ h => h) (Or.inl ⟨by rfl, ?_⟩) (by assumption) ?_
            rotate_left 1
            · intro w hSw
              (try dsimp only at hSw)
              (first | (go_simp; done) | (go_simp; with_reducible rfl))
            (try simp only [Act.put, List.getElem_toArray, List.getElem_cons_succ, List.getElem_cons_zero, List.setIfInBounds_toArray, List.set_cons_zero, List.set_cons_succ])
            refine wpAnyF_take (i := 37) (oi := _) (v := ?_) rfl (by kernel_rfl) (by kernel_rfl) (by kernel_rfl) (by kernel_rfl) (fun _ _ _ h => h) (Or.inl ⟨by rfl, ?_⟩) (by assumption) ?_
            rotate_left 1
            · intro w hSw
              (try dsimp only at hSw)
              (first | (go_simp; done) | (go_simp; with_reducible rfl))
            (try simp only [Act.put, List.getElem_toArray, List.getElem_cons_succ, List.getElem_cons_zero, List.setIfInBounds_toArray, List.set_cons_zero, List.set_cons_succ])
            refine wpAnyF_take (i := 38) (oi := _) (v := ?_) rfl (by kernel_rfl) (by kernel_rfl) (by kernel_rfl) (by kernel_rfl) (fun _ _ _ h => h) (Or.inl ⟨by rfl, ?_⟩) (by assumption) ?_
            rotate_left 1
            · intro w hSw
              (try dsimp only at hSw)
              (first | (go_simp; done) | (go_simp; with_reducible rfl))
            (try simp only [Act.put, List.getElem_toArray, List.getElem_cons_succ, List.getElem_cons_zero, List.setIfInBounds_toArray, List.set_cons_zero, List.set_cons_succ])
            refine wpAnyF_take (i := 39) (oi := _) (v := ?_) rfl (by kernel_rfl) (by kernel_rfl) (by kernel_rfl) (by kernel_rfl) (fun _ _ _ h => h) (Or.inl ⟨by rfl, ?_⟩) (by assumption) ?_
            rotate_left 1
            · intro w hSw
              (try dsimp only at hSw)
              (first | (go_simp; done) | (go_simp; with_reducible rfl))
            (try simp only [Act.put, List.getElem_toArray, List.getElem_cons_succ, List.getElem_cons_zero, List.setIfInBounds_toArray, List.set_cons_zero, List.set_cons_succ])
            refine wpAnyF_take (i := 40) (oi := _) (v := ?_) rfl (by kernel_rfl) (by kernel_rfl) (by kernel_rfl) (by kernel_rfl) (fun _ _ _ h => h) (Or.inl ⟨by rfl, ?_⟩) (by assumption) ?_
            rotate_left 1
            · intro w hSw
              (try dsimp only at hSw)
              (first | (go_simp; done) | (go_simp; with_reducible rfl))
            (try simp only [Act.put, List.getElem_toArray, List.getElem_cons_succ, List.getElem_cons_zero, List.setIfInBounds_toArray, List.set_cons_zero, List.set_cons_succ])
            refine wpAnyF_take (i := 43) (oi := _) (v := ?_) rfl (by kernel_rfl) (by kernel_rfl) (by kernel_rfl) (by kernel_rfl) (fun _ _ _ h => h) (Or.inl ⟨by rfl, ?_⟩) (by assumption) ?_
            rotate_left 1
            · intro w hSw
              (try dsimp only at hSw)
              (first | (go_simp; done) | (go_simp; with_reducible rfl))
            (try simp only [Act.put, List.getElem_toArray, List.getElem_cons_succ, List.getElem_cons_zero, List.setIfInBounds_toArray, List.set_cons_zero, List.set_cons_succ])
            refine wpAnyF_take (i := 44) (oi := _) (v := ?_) rfl (by kernel_rfl) (by kernel_rfl) (by kernel_rfl) (by kernel_rfl) (fun _ _ _ h => h) (Or.inl ⟨by rfl, ?_⟩) (by assumption) ?_
            rotate_left 1
            · intro w hSw
              (try dsimp only at hSw)
              (first | (go_simp; done) | (go_simp; with_reducible rfl))
            (try simp only [Act.put, List.getElem_toArray, List.getElem_cons_succ, List.getElem_cons_zero, List.setIfInBounds_toArray, List.set_cons_zero, List.set_cons_succ])
            refine wpAnyF_take (i := 45) (oi := _) (v := ?_) rfl (by kernel_rfl) (by kernel_rfl) (by kernel_rfl) (by kernel_rfl) (fun _ _ _ h => h) (Or.inl ⟨by rfl, ?_⟩) (by assumption) ?_
            rotate_left 1
            · intro w hSw
              (try dsimp only at hSw)
              (first | (go_simp; done) | (go_simp; with_reducible rfl))
            (try simp only [Act.put, List.getElem_toArray, List.getElem_cons_succ, List.getElem_cons_zero, List.setIfInBounds_toArray, List.set_cons_zero, List.set_cons_succ])
            refine wpAnyF_take (i := 46) (oi := _) (v := ?_) rfl (by kernel_rfl) (by kernel_rfl) (by kernel_rfl) (by kernel_rfl) (fun _ _ _ h => h) (Or.inl ⟨by rfl, ?_⟩) (by assumption) ?_
            rotate_left 1
            · intro w hSw
              (try dsimp only at hSw)
              (first | (go_simp; done) | (go_simp; with_reducible rfl))
            (try simp only [Act.put, List.getElem_toArray, List.getElem_cons_succ, List.getElem_cons_zero, List.setIfInBounds_toArray, List.set_cons_zero, List.set_cons_succ])
            refine wpAnyF_take (i := 47) (oi := _) (v := ?_) rfl (by kernel_rfl) (by kernel_rfl) (by kernel_rfl) (by kernel_rfl) (fun _ _ _ h => h) (Or.inl ⟨by rfl, ?_⟩) (by assumption) ?_
            rotate_left 1
            · intro w hSw
              (try dsimp only at hSw)
              (first | (go_simp; done) | (go_simp; with_reducible rfl))
            (try simp only [Act.put, List.getElem_toArray, List.getElem_cons_succ, List.getElem_cons_zero, List.setIfInBounds_toArray, List.set_cons_zero, List.set_cons_succ])
            refine wpAnyF_take (i := 48) (oi := _) (v := ?_) rfl (by kernel_rfl) (by kernel_rfl) (by kernel_rfl) (by kernel_rfl) (fun _ _ _ h => h) (Or.inl ⟨by rfl, ?_⟩) (by assumption) ?_
            rotate_left 1
            · intro w hSw
              (try dsimp only at hSw)
              (first | (go_simp; done) | (go_simp; with_reducible rfl))
            (try simp only [Act.put, List.getElem_toArray, List.getElem_cons_succ, List.getElem_cons_zero, List.setIfInBounds_toArray, List.set_cons_zero, List.set_cons_succ])
            refine wpAnyF_take (i := 49) (oi := _) (v := ?_) rfl (by kernel_rfl) (by kernel_rfl) (by kernel_rfl) (by kernel_rfl) (fun _ _ _ h => h) (Or.inl ⟨by rfl, ?_⟩) (by assumption) ?_
            rotate_left 1
            · intro w hSw
              (try dsimp only at hSw)
              (first | (go_simp; done) | (go_simp; with_reducible rfl))
            (try simp only [Act.put, List.getElem_toArray, List.getElem_cons_succ, List.getElem_cons_zero, List.setIfInBounds_toArray, List.set_cons_zero, List.set_cons_succ])
            refine wpAnyF_take (i := 50) (oi := _) (v := _) rfl (by kernel_rfl) (by kernel_rfl) (by kernel_rfl) (by kernel_rfl) (fun _ _ _ h => h) (.inl ⟨by with_unfolding_all rfl, fun w h => exec_slice 24 (.tmp 83) (.tmp 85) (.tmp 89) rfl (.slice (some ⟨bb, oo, none⟩) N c) (.int .i64 (p12 : Int)) (.int .i64 (q : Int)) (.slice A5 nn c5) rfl rfl rfl (HCUT.out w)⟩) (by assumption) ?_
            (try simp only [Act.put, List.getElem_toArray, List.getElem_cons_succ, List.getElem_cons_zero, List.setIfInBounds_toArray, List.set_cons_zero, List.set_cons_succ])
            refine wpAnyF_ready (rs := [17, 52]) (by kernel_rfl) (by simp) ?_
            refine AllReadyF.cons (o := _) rfl (fun K hK => ?_) (AllReadyF.cons (o := _) rfl (fun K hK => ?_) AllReadyF.nil)
            · go_simp
              (go_at_call 31)
              refine (HG2.out _ hHeld.2.2).mono ?_
              rintro e w1 ⟨rfl, rfl⟩
              refine hK.out _ _ (hHeld) (fun hHeld1 => ?_)
              clear hK K
              (try simp only [Act.put, List.getElem_toArray, List.getElem_cons_succ, List.getElem_cons_zero, List.setIfInBounds_toArray, List.set_cons_zero, List.set_cons_succ])
              refine wpAnyF_take (i := 18) (oi := _) (v := ?_) rfl (by kernel_rfl) (by kernel_rfl) (by kernel_rfl) (by kernel_rfl) (fun _ _ _ h => h) (Or.inl ⟨by rfl, ?_⟩) (by assumption) ?_
              rotate_left 1
              · intro w hSw
                (try dsimp only at hSw)
                (first | (go_simp; done) | (go_simp; with_reducible rfl))
              (try simp only [Act.put, List.getElem_toArray, List.getElem_cons_succ, List.getElem_cons_zero, List.setIfInBounds_toArray, List.set_cons_zero, List.set_cons_succ])
              refine wpAnyF_ready (rs := [25, 52]) (by kernel_rfl) (by simp) ?_
              refine AllReadyF.cons (o := _) rfl (fun K hK => ?_) (AllReadyF.cons (o := _) rfl (fun K hK => ?_) AllReadyF.nil)
              · go_simp
                (go_at_call 31)
                refine (HG4.out _ hHeld1.2.2).mono ?_
                rintro e w2 ⟨rfl, rfl⟩
                refine hK.out _ _ (hHeld1) (fun hHeld2 => ?_)
                clear hK K
                (try simp only [Act.put, List.getElem_toArray, List.getElem_cons_succ, List.getElem_cons_zero, List.setIfInBounds_toArray, List.set_cons_zero, List.set_cons_succ])
                refine wpAnyF_take (i := 26) (oi := _) (v := ?_) rfl (by kernel_rfl) (by kernel_rfl) (by kernel_rfl) (by kernel_rfl) (fun _ _ _ h => h) (Or.inl ⟨by rfl, ?_⟩) (by assumption) ?_
                rotate_left 1
                · intro w hSw
                  (try dsimp only at hSw)
                  (first | (go_simp; done) | (go_simp; with_reducible rfl))
                (try simp only [Act.put, List.getElem_toArray, List.getElem_cons_succ, List.getElem_cons_zero, List.setIfInBounds_toArray, List.set_cons_zero, List.set_cons_succ])
                refine wpAnyF_ready (rs := [33, 52]) (by kernel_rfl) (by simp) ?_
                refine AllReadyF.cons (o := _) rfl (fun K hK => ?_) (AllReadyF.cons (o := _) rfl (fun K hK => ?_) AllReadyF.nil)
                · go_simp
                  (go_at_call 31)
                  refine (HG6.out _ hHeld2.2.2).mono ?_
                  rintro e w3 ⟨rfl, rfl⟩
                  refine hK.out _ _ (hHeld2) (fun hHeld3 => ?_)
                  clear hK K
                  (try simp only [Act.put, List.getElem_toArray, List.getElem_cons_succ, List.getElem_cons_zero, List.setIfInBounds_toArray, List.set_cons_zero, List.set_cons_succ])
                  refine wpAnyF_take (i := 34) (oi := _) (v := ?_) rfl (by kernel_rfl) (by kernel_rfl) (by kernel_rfl) (by kernel_rfl) (fun _ _ _ h => h) (Or.inl ⟨by rfl, ?_⟩) (by assumption) ?_
                  rotate_left 1
                  · intro w hSw
                    (try dsimp only at hSw)
                    (first | (go_simp; done) | (go_simp; with_reducible rfl))
                  (try simp only [Act.put, List.getElem_toArray, List.getElem_cons_succ, List.getElem_cons_zero, List.setIfInBounds_toArray, List.set_cons_zero, List.set_cons_succ])
                  refine wpAnyF_ready (rs := [41, 52]) (by kernel_rfl) (by simp) ?_
                  refine AllReadyF.cons (o := _) rfl (fun K hK => ?_) (AllReadyF.cons (o := _) rfl (fun K hK => ?_) AllReadyF.nil)
                  · go_simp
                    (go_at_call 31)
                    refine (HG8.out _ hHeld3.2.2).mono ?_
                    rintro e w4 ⟨rfl, rfl⟩
                    refine hK.out _ _ (hHeld3) (fun hHeld4 => ?_)
                    clear hK K
                    (try simp only [Act.put, List.getElem_toArray, List.getElem_cons_succ, List.getElem_cons_zero, List.setIfInBounds_toArray, List.set_cons_zero, List.set_cons_succ])
                    refine wpAnyF_take (i := 42) (oi := _) (v := ?_) rfl (by kernel_rfl) (by kernel_rfl) (by kernel_rfl) (by kernel_rfl) (fun _ _ _ h => h) (Or.inl ⟨by rfl, ?_⟩) (by assumption) ?_
                    rotate_left 1
                    · intro w hSw
                      (try dsimp only at hSw)
                      (first | (go_simp; done) | (go_simp; with_reducible rfl))
                    (try simp only [Act.put, List.getElem_toArray, List.getElem_cons_succ, List.getElem_cons_zero, List.setIfInBounds_toArray, List.set_cons_zero, List.set_cons_succ])
                    refine wpAnyF_take (i := 51) (oi := _) (v := ?_) rfl (by kernel_rfl) (by kernel_rfl) (by kernel_rfl) (by kernel_rfl) (fun _ _ _ h => h) (Or.inl ⟨by rfl, ?_⟩) (by assumption) ?_
                    rotate_left 1
                    · intro w hSw
                      (try dsimp only at hSw)
                      (first | (go_simp; done) | (go_simp; with_reducible rfl))
                    (try simp only [Act.put, List.getElem_toArray, List.getElem_cons_succ, List.getElem_cons_zero, List.setIfInBounds_toArray, List.set_cons_zero, List.set_cons_succ])
                    refine wpAnyF_ready (rs := [52]) (by kernel_rfl) (by simp) ?_
                    refine AllReadyF.cons (o := _) rfl (fun K hK => ?_) AllReadyF.nil
                    go_simp
                    refine hK.out _ _ (HK.out _ (hHeld4.2.2.alloc hHeld4.2.2.size _)) (fun hHeld5 => ?_)
                    clear hK K
                    (try simp only [Act.put, List.getElem_toArray, List.getElem_cons_succ, List.getElem_cons_zero, List.setIfInBounds_toArray, List.set_cons_zero, List.set_cons_succ])
                    refine wpAnyF_ready (rs := [53]) (by kernel_rfl) (by simp) ?_
                    refine AllReadyF.cons (o := _) rfl (fun K hK => ?_) AllReadyF.nil
                    go_simp
                    refine hK.out _ _ (HK.out _ ((Below.refl _ _).alloc (Nat.le_refl _) _).drew) (fun hHeld99 => ?_)
                    clear hK K
                    (try simp only [Act.put, List.getElem_toArray, List.getElem_cons_succ, List.getElem_cons_zero, List.setIfInBounds_toArray, List.set_cons_zero, List.set_cons_succ])
                    refine wpAnyF_done (by kernel_rfl) ?_ _
                    have HB2 := Lib.hid (HB.out.trans (((Below.refl wr.heap.size wr).alloc (Nat.le_refl _) (.cells #[.int .i64 (x0 : Int), .bool yb, .int .i64 (x2 : Int), .int .i64 (x4 : Int), .int .i64 (x6 : Int), .int .i64 (x8 : Int), .slice A5 nn c5] 26)).drew.mono HB.out.size))
                    have HX0 : Hid ((wr.alloc (.cells #[.int .i64 (x0 : Int), .bool yb, .int .i64 (x2 : Int), .int .i64 (x4 : Int), .int .i64 (x6 : Int), .int .i64 (x8 : Int), .slice A5 nn c5] 26)).drew.heap[wr.heap.size]? = some (.cells #[.int .i64 (x0 : Int), .bool yb, .int .i64 (x2 : Int), .int .i64 (x4 : Int), .int .i64 (x6 : Int), .int .i64 (x8 : Int), .slice A5 nn c5] 26 (0, 0))) := Lib.hid (heap_alloc_new wr _)
                    have HAW : Hid (Below wr.heap.size wr (wr.alloc (.cells #[.int .i64 (x0 : Int), .bool yb, .int .i64 (x2 : Int), .int .i64 (x4 : Int), .int .i64 (x6 : Int), .int .i64 (x8 : Int), .slice A5 nn c5] 26)).drew) := Lib.hid ((Below.refl wr.heap.size wr).alloc (Nat.le_refl _) (.cells #[.int .i64 (x0 : Int), .bool yb, .int .i64 (x2 : Int), .int .i64 (x4 : Int), .int .i64 (x6 : Int), .int .i64 (x8 : Int), .slice A5 nn c5] 26)).drew
                    clear HG2 HG4 HG6 HG8 HK
                    have HMX := Lib.hid (HMAY.out _ HAW.out)
                    go_wp2_with fail
                    generalize (wr.alloc (.cells #[.int .i64 (x0 : Int), .bool yb, .int .i64 (x2 : Int), .int .i64 (x4 : Int), .int .i64 (x6 : Int), .int .i64 (x8 : Int), .slice A5 nn c5] 26)).drew = w3 at *
                    refine HMX.out.mono ?_
                    rintro e w4 ⟨rfl, hb4⟩
                    have HB4 : Hid (Below w.heap.size w w4) := Lib.hid (HB2.out.trans (hb4.mono HB2.out.size))
                    have HW4 : Hid (Below wr.heap.size wr w4) := Lib.hid (HAW.out.trans (hb4.mono HAW.out.size))
                    have HX4 : Hid (w4.heap[wr.heap.size]? = some (.cells #[.int .i64 (x0 : Int), .bool yb, .int .i64 (x2 : Int), .int .i64 (x4 : Int), .int .i64 (x6 : Int), .int .i64 (x8 : Int), .slice A5 nn c5] 26 (0, 0))) := Lib.hid ((hb4.block _ (blk_lt HX0.out)).trans HX0.out)
                    clear hb4
                    cases R
                    · have HF : Hid (RParseTo w B (.returned (.tuple #[.slice none 0 0, .bool false])) w4) := Lib.hid ⟨HB4.out, .inl ⟨HNONE.out (HNO.out (by first | rfl | trivial)), rfl⟩⟩
                      go_wp2
                      exact bodyPost_ret (v := .tuple #[.slice none 0 0, .bool false]) (by simp [results, Try.results17, go_sem]) rfl HF.out
                    · have HO4 : Hid (AcO 26 w4 w.heap.size w.heap.size v pre) := Lib.hid (HO.out.below (Nat.le_refl _) HB.out.size HW4.out)
                      have HI4 : Hid (EnI w4 w.heap.size w.heap.size A5 c5 bs) := Lib.hid ⟨.inl (by rw [HQ5.out.len]; exact HQ5.out.below HB4.out), HZ5.out⟩
                      have d0 : w4.cell? ⟨wr.heap.size, 0, none⟩ = some (.int .i64 (x0 : Int)) := blk_cell HX4.out 0
                      have d1 : w4.cell? ⟨wr.heap.size, 1, none⟩ = some (.bool yb) := blk_cell HX4.out 1
                      have d2 : w4.cell? ⟨wr.heap.size, 2, none⟩ = some (.int .i64 (x2 : Int)) := blk_cell HX4.out 2
                      have d3 : w4.cell? ⟨wr.heap.size, 3, none⟩ = some (.int .i64 (x4 : Int)) := blk_cell HX4.out 3
                      have d4 : w4.cell? ⟨wr.heap.size, 4, none⟩ = some (.int .i64 (x6 : Int)) := blk_cell HX4.out 4
                      have d5 : w4.cell? ⟨wr.heap.size, 5, none⟩ = some (.int .i64 (x8 : Int)) := blk_cell HX4.out 5
                      have d6 : w4.cell? ⟨wr.heap.size, 6, none⟩ = some (.slice A5 nn c5) := blk_cell HX4.out 6
                      go_upto_region 13 with (at_builtin; refine wp_appA 26 22 Try.underlying22 (by kernel_rfl) (by decide) _ rfl (.tmp 95) (.tmp 97) rfl w.heap.size w.heap.size (Nat.le_refl _) v pre (x0 : Int) (x2 : Int) (x4 : Int) (x6 : Int) (x8 : Int) yb bs A5 c5 nn HQ5.out.len rfl HO4.out HTL.out rfl HI4.out HB4.out.size ?_; intro v9 w9 ho9 hd9 hf9; have HG : Hid (RpR w B (.int .i64 (q : Int)) v9 w9) := Lib.hid (HNX.out (by first | rfl | trivial) v9 w9 ho9 (HB4.out.trans hd9)); clear ho9 hd9 hf9)
                      have hm5 := HM5.out
                      go_wp2
                      go_roundw
                      case rel => exact HG.out
                      case measure => simp [intOf]; omega
                  · go_simp
                    refine hK.out _ _ (HK.out _ (hHeld3.2.2.alloc hHeld3.2.2.size _)) (fun hHeld6 => ?_)
                    clear hK K
                    (try simp only [Act.put, List.getElem_toArray, List.getElem_cons_succ, List.getElem_cons_zero, List.setIfInBounds_toArray, List.set_cons_zero, List.set_cons_succ])
                    refine wpAnyF_ready (rs := [41]) (by kernel_rfl) (by simp) ?_
                    refine AllReadyF.cons (o := _) rfl (fun K hK => ?_) AllReadyF.nil
                    go_simp
                    (go_at_call 31)
                    refine (HG8.out _ hHeld6.2.2).mono ?_
                    rintro e w4 ⟨rfl, rfl⟩
                    refine hK.out _ _ (hHeld6) (fun hHeld7 => ?_)
                    clear hK K
                    (try simp only [Act.put, List.getElem_toArray, List.getElem_cons_succ, List.getElem_cons_zero, List.setIfInBounds_toArray, List.set_cons_zero, List.set_cons_succ])
                    refine wpAnyF_take (i := 42) (oi := _) (v := ?_) rfl (by kernel_rfl) (by kernel_rfl) (by kernel_rfl) (by kernel_rfl) (fun _ _ _ h => h) (Or.inl ⟨by rfl, ?_⟩) (by assumption) ?_
                    rotate_left 1
                    · intro w hSw
                      (try dsimp only at hSw)
                      (first | (go_simp; done) | (go_simp; with_reducible rfl))
                    (try simp only [Act.put, List.getElem_toArray, List.getElem_cons_succ, List.getElem_cons_zero, List.setIfInBounds_toArray, List.set_cons_zero, List.set_cons_succ])
                    refine wpAnyF_take (i := 51) (oi := _) (v := ?_) rfl (by kernel_rfl) (by kernel_rfl) (by kernel_rfl) (by kernel_rfl) (fun _ _ _ h => h) (Or.inl ⟨by rfl, ?_⟩) (by assumption) ?_
                    rotate_left 1
                    · intro w hSw
                      (try dsimp only at hSw)
                      (first | (go_simp; done) | (go_simp; with_reducible rfl))
                    (try simp only [Act.put, List.getElem_toArray, List.getElem_cons_succ, List.getElem_cons_zero, List.setIfInBounds_toArray, List.set_cons_zero, List.set_cons_succ])
                    refine wpAnyF_ready (rs := [53]) (by kernel_rfl) (by simp) ?_
                    refine AllReadyF.cons (o := _) rfl (fun K hK => ?_) AllReadyF.nil
                    go_simp
                    refine hK.out _ _ (HK.out _ ((Below.refl _ _).alloc (Nat.le_refl _) _).drew) (fun hHeld99 => ?_)
                    clear hK K
                    (try simp only [Act.put, List.getElem_toArray, List.getElem_cons_succ, List.getElem_cons_zero, List.setIfInBounds_toArray, List.set_cons_zero, List.set_cons_succ])
                    refine wpAnyF_done (by kernel_rfl) ?_ _
                    have HB2 := Lib.hid (HB.out.trans (((Below.refl wr.heap.size wr).alloc (Nat.le_refl _) (.cells #[.int .i64 (x0 : Int), .bool yb, .int .i64 (x2 : Int), .int .i64 (x4 : Int), .int .i64 (x6 : Int), .int .i64 (x8 : Int), .slice A5 nn c5] 26)).drew.mono HB.out.size))
                    have HX0 : Hid ((wr.alloc (.cells #[.int .i64 (x0 : Int), .bool yb, .int .i64 (x2 : Int), .int .i64 (x4 : Int), .int .i64 (x6 : Int), .int .i64 (x8 : Int), .slice A5 nn c5] 26)).drew.heap[wr.heap.size]? = some (.cells #[.int .i64 (x0 : Int), .bool yb, .int .i64 (x2 : Int), .int .i64 (x4 : Int), .int .i64 (x6 : Int), .int .i64 (x8 : Int), .slice A5 nn c5] 26 (0, 0))) := Lib.hid (heap_alloc_new wr _)
                    have HAW : Hid (Below wr.heap.size wr (wr.alloc (.cells #[.int .i64 (x0 : Int), .bool yb, .int .i64 (x2 : Int), .int .i64 (x4 : Int), .int .i64 (x6 : Int), .int .i64 (x8 : Int), .slice A5 nn c5] 26)).drew) := Lib.hid ((Below.refl wr.heap.size wr).alloc (Nat.le_refl _) (.cells #[.int .i64 (x0 : Int), .bool yb, .int .i64 (x2 : Int), .int .i64 (x4 : Int), .int .i64 (x6 : Int), .int .i64 (x8 : Int), .slice A5 nn c5] 26)).drew
                    clear HG2 HG4 HG6 HG8 HK
                    have HMX := Lib.hid (HMAY.out _ HAW.out)
                    go_wp2_with fail
                    generalize (wr.alloc (.cells #[.int .i64 (x0 : Int), .bool yb, .int .i64 (x2 : Int), .int .i64 (x4 : Int), .int .i64 (x6 : Int), .int .i64 (x8 : Int), .slice A5 nn c5] 26)).drew = w3 at *
                    refine HMX.out.mono ?_
                    rintro e w4 ⟨rfl, hb4⟩
                    have HB4 : Hid (Below w.heap.size w w4) := Lib.hid (HB2.out.trans (hb4.mono HB2.out.size))
                    have HW4 : Hid (Below wr.heap.size wr w4) := Lib.hid (HAW.out.trans (hb4.mono HAW.out.size))
                    have HX4 : Hid (w4.heap[wr.heap.size]? = some (.cells #[.int .i64 (x0 : Int), .bool yb, .int .i64 (x2 : Int), .int .i64 (x4 : Int), .int .i64 (x6 : Int), .int .i64 (x8 : Int), .slice A5 nn c5] 26 (0, 0))) := Lib.hid ((hb4.block _ (blk_lt HX0.out)).trans HX0.out)
                    clear hb4
                    cases R
                    · have HF : Hid (RParseTo w B (.returned (.tuple #[.slice none 0 0, .bool false])) w4) := Lib.hid ⟨HB4.out, .inl ⟨HNONE.out (HNO.out (by first | rfl | trivial)), rfl⟩⟩
                      go_wp2
                      exact bodyPost_ret (v := .tuple #[.slice none 0 0, .bool false]) (by simp [results, Try.results17, go_sem]) rfl HF.out
                    · have HO4 : Hid (AcO 26 w4 w.heap.size w.heap.size v pre) := Lib.hid (HO.out.below (Nat.le_refl _) HB.out.size HW4.out)
                      have HI4 : Hid (EnI w4 w.heap.size w.heap.size A5 c5 bs) := Lib.hid ⟨.inl (by rw [HQ5.out.len]; exact HQ5.out.below HB4.out), HZ5.out⟩
                      have d0 : w4.cell? ⟨wr.heap.size, 0, none⟩ = some (.int .i64 (x0 : Int)) := blk_cell HX4.out 0
                      have d1 : w4.cell? ⟨wr.heap.size, 1, none⟩ = some (.bool yb) := blk_cell HX4.out 1
                      have d2 : w4.cell? ⟨wr.heap.size, 2, none⟩ = some (.int .i64 (x2 : Int)) := blk_cell HX4.out 2
                      have d3 : w4.cell? ⟨wr.heap.size, 3, none⟩ = some (.int .i64 (x4 : Int)) := blk_cell HX4.out 3
                      have d4 : w4.cell? ⟨wr.heap.size, 4, none⟩ = some (.int .i64 (x6 : Int)) := blk_cell HX4.out 4
                      have d5 : w4.cell? ⟨wr.heap.size, 5, none⟩ = some (.int .i64 (x8 : Int)) := blk_cell HX4.out 5
                      have d6 : w4.cell? ⟨wr.heap.size, 6, none⟩ = some (.slice A5 nn c5) := blk_cell HX4.out 6
                      go_upto_region 13 with (at_builtin; refine wp_appA 26 22 Try.underlying22 (by kernel_rfl) (by decide) _ rfl (.tmp 95) (.tmp 97) rfl w.heap.size w.heap.size (Nat.le_refl _) v pre (x0 : Int) (x2 : Int) (x4 : Int) (x6 : Int) (x8 : Int) yb bs A5 c5 nn HQ5.out.len rfl HO4.out HTL.out rfl HI4.out HB4.out.size ?_; intro v9 w9 ho9 hd9 hf9; have HG : Hid (RpR w B (.int .i64 (q : Int)) v9 w9) := Lib.hid (HNX.out (by first | rfl | trivial) v9 w9 ho9 (HB4.out.trans hd9)); clear ho9 hd9 hf9)
                      have hm5 := HM5.out
                      go_wp2
                      go_roundw
                      case rel => exact HG.out
                      case measure => simp [intOf]; omega
                · go_simp
                  refine hK.out _ _ (HK.out _ (hHeld2.2.2.alloc hHeld2.2.2.size _)) (fun hHeld9 => ?_)
                  clear hK K
                  (try simp only [Act.put, List.getElem_toArray, List.getElem_cons_succ, List.getElem_cons_zero, List.setIfInBounds_toArray, List.set_cons_zero, List.set_cons_succ])
                  refine wpAnyF_ready (rs := [33]) (by kernel_rfl) (by simp) ?_
                  refine AllReadyF.cons (o := _) rfl (fun K hK => ?_) AllReadyF.nil
                  go_simp
                  (go_at_call 31)
                  refine (HG6.out _ hHeld9.2.2).mono ?_
                  rintro e w3 ⟨rfl, rfl⟩
                  refine hK.out _ _ (hHeld9) (fun hHeld10 => ?_)
                  clear hK K
                  (try simp only [Act.put, List.getElem_toArray, List.getElem_cons_succ, List.getElem_cons_zero, List.setIfInBounds_toArray, List.set_cons_zero, List.set_cons_succ])
                  refine wpAnyF_take (i := 34) (oi := _) (v := ?_) rfl (by kernel_rfl) (by kernel_rfl) (by kernel_rfl) (by kernel_rfl) (fun _ _ _ h => h) (Or.inl ⟨by rfl, ?_⟩) (by assumption) ?_
                  rotate_left 1
                  · intro w hSw
                    (try dsimp only at hSw)
                    (first | (go_simp; done) | (go_simp; with_reducible rfl))
                  (try simp only [Act.put, List.getElem_toArray, List.getElem_cons_succ, List.getElem_cons_zero, List.setIfInBounds_toArray, List.set_cons_zero, List.set_cons_succ])
                  refine wpAnyF_ready (rs := [41]) (by kernel_rfl) (by simp) ?_
                  refine AllReadyF.cons (o := _) rfl (fun K hK => ?_) AllReadyF.nil
                  go_simp
                  (go_at_call 31)
                  refine (HG8.out _ hHeld10.2.2).mono ?_
                  rintro e w4 ⟨rfl, rfl⟩
                  refine hK.out _ _ (hHeld10) (fun hHeld11 => ?_)
                  clear hK K
                  (try simp only [Act.put, List.getElem_toArray, List.getElem_cons_succ, List.getElem_cons_zero, List.setIfInBounds_toArray, List.set_cons_zero, List.set_cons_succ])
                  refine wpAnyF_take (i := 42) (oi := _) (v := ?_) rfl (by kernel_rfl) (by kernel_rfl) (by kernel_rfl) (by kernel_rfl) (fun _ _ _ h => h) (Or.inl ⟨by rfl, ?_⟩) (by assumption) ?_
                  rotate_left 1
                  · intro w hSw
                    (try dsimp only at hSw)
                    (first | (go_simp; done) | (go_simp; with_reducible rfl))
                  (try simp only [Act.put, List.getElem_toArray, List.getElem_cons_succ, List.getElem_cons_zero, List.setIfInBounds_toArray, List.set_cons_zero, List.set_cons_succ])
                  refine wpAnyF_take (i := 51) (oi := _) (v := ?_) rfl (by kernel_rfl) (by kernel_rfl) (by kernel_rfl) (by kernel_rfl) (fun _ _ _ h => h) (Or.inl ⟨by rfl, ?_⟩) (by assumption) ?_
                  rotate_left 1
                  · intro w hSw
                    (try dsimp only at hSw)
                    (first | (go_simp; done) | (go_simp; with_reducible rfl))
                  (try simp only [Act.put, List.getElem_toArray, List.getElem_cons_succ, List.getElem_cons_zero, List.setIfInBounds_toArray, List.set_cons_zero, List.set_cons_succ])
                  refine wpAnyF_ready (rs := [53]) (by kernel_rfl) (by simp) ?_
                  refine AllReadyF.cons (o := _) rfl (fun K hK => ?_) AllReadyF.nil
                  go_simp
                  refine hK.out _ _ (HK.out _ ((Below.refl _ _).alloc (Nat.le_refl _) _).drew) (fun hHeld99 => ?_)
                  clear hK K
                  (try simp only [Act.put, List.getElem_toArray, List.getElem_cons_succ, List.getElem_cons_zero, List.setIfInBounds_toArray, List.set_cons_zero, List.set_cons_succ])
                  refine wpAnyF_done (by kernel_rfl) ?_ _
                  have HB2 := Lib.hid (HB.out.trans (((Below.refl wr.heap.size wr).alloc (Nat.le_refl _) (.cells #[.int .i64 (x0 : Int), .bool yb, .int .i64 (x2 : Int), .int .i64 (x4 : Int), .int .i64 (x6 : Int), .int .i64 (x8 : Int), .slice A5 nn c5] 26)).drew.mono HB.out.size))
                  have HX0 : Hid ((wr.alloc (.cells #[.int .i64 (x0 : Int), .bool yb, .int .i64 (x2 : Int), .int .i64 (x4 : Int), .int .i64 (x6 : Int), .int .i64 (x8 : Int), .slice A5 nn c5] 26)).drew.heap[wr.heap.size]? = some (.cells #[.int .i64 (x0 : Int), .bool yb, .int .i64 (x2 : Int), .int .i64 (x4 : Int), .int .i64 (x6 : Int), .int .i64 (x8 : Int), .slice A5 nn c5] 26 (0, 0))) := Lib.hid (heap_alloc_new wr _)
                  have HAW : Hid (Below wr.heap.size wr (wr.alloc (.cells #[.int .i64 (x0 : Int), .bool yb, .int .i64 (x2 : Int), .int .i64 (x4 : Int), .int .i64 (x6 : Int), .int .i64 (x8 : Int), .slice A5 nn c5] 26)).drew) := Lib.hid ((Below.refl wr.heap.size wr).alloc (Nat.le_refl _) (.cells #[.int .i64 (x0 : Int), .bool yb, .int .i64 (x2 : Int), .int .i64 (x4 : Int), .int .i64 (x6 : Int), .int .i64 (x8 : Int), .slice A5 nn c5] 26)).drew
                  clear HG2 HG4 HG6 HG8 HK
                  have HMX := Lib.hid (HMAY.out _ HAW.out)
                  go_wp2_with fail
                  generalize (wr.alloc (.cells #[.int .i64 (x0 : Int), .bool yb, .int .i64 (x2 : Int), .int .i64 (x4 : Int), .int .i64 (x6 : Int), .int .i64 (x8 : Int), .slice A5 nn c5] 26)).drew = w3 at *
                  refine HMX.out.mono ?_
                  rintro e w4 ⟨rfl, hb4⟩
                  have HB4 : Hid (Below w.heap.size w w4) := Lib.hid (HB2.out.trans (hb4.mono HB2.out.size))
                  have HW4 : Hid (Below wr.heap.size wr w4) := Lib.hid (HAW.out.trans (hb4.mono HAW.out.size))
                  have HX4 : Hid (w4.heap[wr.heap.size]? = some (.cells #[.int .i64 (x0 : Int), .bool yb, .int .i64 (x2 : Int), .int .i64 (x4 : Int), .int .i64 (x6 : Int), .int .i64 (x8 : Int), .slice A5 nn c5] 26 (0, 0))) := Lib.hid ((hb4.block _ (blk_lt HX0.out)).trans HX0.out)
                  clear hb4
                  cases R
                  · have HF : Hid (RParseTo w B (.returned (.tuple #[.slice none 0 0, .bool false])) w4) := Lib.hid ⟨HB4.out, .inl ⟨HNONE.out (HNO.out (by first | rfl | trivial)), rfl⟩⟩
                    go_wp2
                    exact bodyPost_ret (v := .tuple #[.slice none 0 0, .bool false]) (by simp [results, Try.results17, go_sem]) rfl HF.out
                  · have HO4 : Hid (AcO 26 w4 w.heap.size w.heap.size v pre) := Lib.hid (HO.out.below (Nat.le_refl _) HB.out.size HW4.out)
                    have HI4 : Hid (EnI w4 w.heap.size w.heap.size A5 c5 bs) := Lib.hid ⟨.inl (by rw [HQ5.out.len]; exact HQ5.out.below HB4.out), HZ5.out⟩
                    have d0 : w4.cell? ⟨wr.heap.size, 0, none⟩ = some (.int .i64 (x0 : Int)) := blk_cell HX4.out 0
                    have d1 : w4.cell? ⟨wr.heap.size, 1, none⟩ = some (.bool yb) := blk_cell HX4.out 1
                    have d2 : w4.cell? ⟨wr.heap.size, 2, none⟩ = some (.int .i64 (x2 : Int)) := blk_cell HX4.out 2
                    have d3 : w4.cell? ⟨wr.heap.size, 3, none⟩ = some (.int .i64 (x4 : Int)) := blk_cell HX4.out 3
                    have d4 : w4.cell? ⟨wr.heap.size, 4, none⟩ = some (.int .i64 (x6 : Int)) := blk_cell HX4.out 4
                    have d5 : w4.cell? ⟨wr.heap.size, 5, none⟩ = some (.int .i64 (x8 : Int)) := blk_cell HX4.out 5
                    have d6 : w4.cell? ⟨wr.heap.size, 6, none⟩ = some (.slice A5 nn c5) := blk_cell HX4.out 6
                    go_upto_region 13 with (at_builtin; refine wp_appA 26 22 Try.underlying22 (by kernel_rfl) (by decide) _ rfl (.tmp 95) (.tmp 97) rfl w.heap.size w.heap.size (Nat.le_refl _) v pre (x0 : Int) (x2 : Int) (x4 : Int) (x6 : Int) (x8 : Int) yb bs A5 c5 nn HQ5.out.len rfl HO4.out HTL.out rfl HI4.out HB4.out.size ?_; intro v9 w9 ho9 hd9 hf9; have HG : Hid (RpR w B (.int .i64 (q : Int)) v9 w9) := Lib.hid (HNX.out (by first | rfl | trivial) v9 w9 ho9 (HB4.out.trans hd9)); clear ho9 hd9 hf9)
                    have hm5 := HM5.out
                    go_wp2
                    go_roundw
                    case rel => exact HG.out
                    case measure => simp [intOf]; omega
              · go_simp
                refine hK.out _ _ (HK.out _ (hHeld1.2.2.alloc hHeld1.2.2.size _)) (fun hHeld13 => ?_)
                clear hK K
                (try simp only [Act.put, List.getElem_toArray, List.getElem_cons_succ, List.getElem_cons_zero, List.setIfInBounds_toArray, List.set_cons_zero, List.set_cons_succ])
                refine wpAnyF_ready (rs := [25]) (by kernel_rfl) (by simp) ?_
                refine AllReadyF.cons (o := _) rfl (fun K hK => ?_) AllReadyF.nil
                go_simp
                (go_at_call 31)
                refine (HG4.out _ hHeld13.2.2).mono ?_
                rintro e w2 ⟨rfl, rfl⟩
                refine hK.out _ _ (hHeld13) (fun hHeld14 => ?_)
                clear hK K
                (try simp only [Act.put, List.getElem_toArray, List.getElem_cons_succ, List.getElem_cons_zero, List.setIfInBounds_toArray, List.set_cons_zero, List.set_cons_succ])
                refine wpAnyF_take (i := 26) (oi := _) (v := ?_) rfl (by kernel_rfl) (by kernel_rfl) (by kernel_rfl) (by kernel_rfl) (fun _ _ _ h => h) (Or.inl ⟨by rfl, ?_⟩) (by assumption) ?_
                rotate_left 1
                · intro w hSw
                  (try dsimp only at hSw)
                  (first | (go_simp; done) | (go_simp; with_reducible rfl))
                (try simp only [Act.put, List.getElem_toArray, List.getElem_cons_succ, List.getElem_cons_zero, List.setIfInBounds_toArray, List.set_cons_zero, List.set_cons_succ])
                refine wpAnyF_ready (rs := [33]) (by kernel_rfl) (by simp) ?_
                refine AllReadyF.cons (o := _) rfl (fun K hK => ?_) AllReadyF.nil
                go_simp
                (go_at_call 31)
                refine (HG6.out _ hHeld14.2.2).mono ?_
                rintro e w3 ⟨rfl, rfl⟩
                refine hK.out _ _ (hHeld14) (fun hHeld15 => ?_)
                clear hK K
                (try simp only [Act.put, List.getElem_toArray, List.getElem_cons_succ, List.getElem_cons_zero, List.setIfInBounds_toArray, List.set_cons_zero, List.set_cons_succ])
                refine wpAnyF_take (i := 34) (oi := _) (v := ?_) rfl (by kernel_rfl) (by kernel_rfl) (by kernel_rfl) (by kernel_rfl) (fun _ _ _ h => h) (Or.inl ⟨by rfl, ?_⟩) (by assumption) ?_
                rotate_left 1
                · intro w hSw
                  (try dsimp only at hSw)
                  (first | (go_simp; done) | (go_simp; with_reducible rfl))
                (try simp only [Act.put, List.getElem_toArray, List.getElem_cons_succ, List.getElem_cons_zero, List.setIfInBounds_toArray, List.set_cons_zero, List.set_cons_succ])
                refine wpAnyF_ready (rs := [41]) (by kernel_rfl) (by simp) ?_
                refine AllReadyF.cons (o := _) rfl (fun K hK => ?_) AllReadyF.nil
                go_simp
                (go_at_call 31)
                refine (HG8.out _ hHeld15.2.2).mono ?_
                rintro e w4 ⟨rfl, rfl⟩
                refine hK.out _ _ (hHeld15) (fun hHeld16 => ?_)
                clear hK K
                (try simp only [Act.put, List.getElem_toArray, List.getElem_cons_succ, List.getElem_cons_zero, List.setIfInBounds_toArray, List.set_cons_zero, List.set_cons_succ])
                refine wpAnyF_take (i := 42) (oi := _) (v := ?_) rfl (by kernel_rfl) (by kernel_rfl) (by kernel_rfl) (by kernel_rfl) (fun _ _ _ h => h) (Or.inl ⟨by rfl, ?_⟩) (by assumption) ?_
                rotate_left 1
                · intro w hSw
                  (try dsimp only at hSw)
                  (first | (go_simp; done) | (go_simp; with_reducible rfl))
                (try simp only [Act.put, List.getElem_toArray, List.getElem_cons_succ, List.getElem_cons_zero, List.setIfInBounds_toArray, List.set_cons_zero, List.set_cons_succ])
                refine wpAnyF_take (i := 51) (oi := _) (v := ?_) rfl (by kernel_rfl) (by kernel_rfl) (by kernel_rfl) (by kernel_rfl) (fun _ _ _ h => h) (Or.inl ⟨by rfl, ?_⟩) (by assumption) ?_
                rotate_left 1
                · intro w hSw
                  (try dsimp only at hSw)
                  (first | (go_simp; done) | (go_simp; with_reducible rfl))
                (try simp only [Act.put, List.getElem_toArray, List.getElem_cons_succ, List.getElem_cons_zero, List.setIfInBounds_toArray, List.set_cons_zero, List.set_cons_succ])
                refine wpAnyF_ready (rs := [53]) (by kernel_rfl) (by simp) ?_
                refine AllReadyF.cons (o := _) rfl (fun K hK => ?_) AllReadyF.nil
                go_simp
                refine hK.out _ _ (HK.out _ ((Below.refl _ _).alloc (Nat.le_refl _) _).drew) (fun hHeld99 => ?_)
                clear hK K
                (try simp only [Act.put, List.getElem_toArray, List.getElem_cons_succ, List.getElem_cons_zero, List.setIfInBounds_toArray, List.set_cons_zero, List.set_cons_succ])
                refine wpAnyF_done (by kernel_rfl) ?_ _
                have HB2 := Lib.hid (HB.out.trans (((Below.refl wr.heap.size wr).alloc (Nat.le_refl _) (.cells #[.int .i64 (x0 : Int), .bool yb, .int .i64 (x2 : Int), .int .i64 (x4 : Int), .int .i64 (x6 : Int), .int .i64 (x8 : Int), .slice A5 nn c5] 26)).drew.mono HB.out.size))
                have HX0 : Hid ((wr.alloc (.cells #[.int .i64 (x0 : Int), .bool yb, .int .i64 (x2 : Int), .int .i64 (x4 : Int), .int .i64 (x6 : Int), .int .i64 (x8 : Int), .slice A5 nn c5] 26)).drew.heap[wr.heap.size]? = some (.cells #[.int .i64 (x0 : Int), .bool yb, .int .i64 (x2 : Int), .int .i64 (x4 : Int), .int .i64 (x6 : Int), .int .i64 (x8 : Int), .slice A5 nn c5] 26 (0, 0))) := Lib.hid (heap_alloc_new wr _)
                have HAW : Hid (Below wr.heap.size wr (wr.alloc (.cells #[.int .i64 (x0 : Int), .bool yb, .int .i64 (x2 : Int), .int .i64 (x4 : Int), .int .i64 (x6 : Int), .int .i64 (x8 : Int), .slice A5 nn c5] 26)).drew) := Lib.hid ((Below.refl wr.heap.size wr).alloc (Nat.le_refl _) (.cells #[.int .i64 (x0 : Int), .bool yb, .int .i64 (x2 : Int), .int .i64 (x4 : Int), .int .i64 (x6 : Int), .int .i64 (x8 : Int), .slice A5 nn c5] 26)).drew
                clear HG2 HG4 HG6 HG8 HK
                have HMX := Lib.hid (HMAY.out _ HAW.out)
                go_wp2_with fail
                generalize (wr.alloc (.cells #[.int .i64 (x0 : Int), .bool yb, .int .i64 (x2 : Int), .int .i64 (x4 : Int), .int .i64 (x6 : Int), .int .i64 (x8 : Int), .slice A5 nn c5] 26)).drew = w3 at *
                refine HMX.out.mono ?_
                rintro e w4 ⟨rfl, hb4⟩
                have HB4 : Hid (Below w.heap.size w w4) := Lib.hid (HB2.out.trans (hb4.mono HB2.out.size))
                have HW4 : Hid (Below wr.heap.size wr w4) := Lib.hid (HAW.out.trans (hb4.mono HAW.out.size))
                have HX4 : Hid (w4.heap[wr.heap.size]? = some (.cells #[.int .i64 (x0 : Int), .bool yb, .int .i64 (x2 : Int), .int .i64 (x4 : Int), .int .i64 (x6 : Int), .int .i64 (x8 : Int), .slice A5 nn c5] 26 (0, 0))) := Lib.hid ((hb4.block _ (blk_lt HX0.out)).trans HX0.out)
                clear hb4
                cases R
                · have HF : Hid (RParseTo w B (.returned (.tuple #[.slice none 0 0, .bool false])) w4) := Lib.hid ⟨HB4.out, .inl ⟨HNONE.out (HNO.out (by first | rfl | trivial)), rfl⟩⟩
                  go_wp2
                  exact bodyPost_ret (v := .tuple #[.slice none 0 0, .bool false]) (by simp [results, Try.results17, go_sem]) rfl HF.out
                · have HO4 : Hid (AcO 26 w4 w.heap.size w.heap.size v pre) := Lib.hid (HO.out.below (Nat.le_refl _) HB.out.size HW4.out)
                  have HI4 : Hid (EnI w4 w.heap.size w.heap.size A5 c5 bs) := Lib.hid ⟨.inl (by rw [HQ5.out.len]; exact HQ5.out.below HB4.out), HZ5.out⟩
                  have d0 : w4.cell? ⟨wr.heap.size, 0, none⟩ = some (.int .i64 (x0 : Int)) := blk_cell HX4.out 0
                  have d1 : w4.cell? ⟨wr.heap.size, 1, none⟩ = some (.bool yb) := blk_cell HX4.out 1
                  have d2 : w4.cell? ⟨wr.heap.size, 2, none⟩ = some (.int .i64 (x2 : Int)) := blk_cell HX4.out 2
                  have d3 : w4.cell? ⟨wr.heap.size, 3, none⟩ = some (.int .i64 (x4 : Int)) := blk_cell HX4.out 3
                  have d4 : w4.cell? ⟨wr.heap.size, 4, none⟩ = some (.int .i64 (x6 : Int)) := blk_cell HX4.out 4
                  have d5 : w4.cell? ⟨wr.heap.size, 5, none⟩ = some (.int .i64 (x8 : Int)) := blk_cell HX4.out 5
                  have d6 : w4.cell? ⟨wr.heap.size, 6, none⟩ = some (.slice A5 nn c5) := blk_cell HX4.out 6
                  go_upto_region 13 with (at_builtin; refine wp_appA 26 22 Try.underlying22 (by kernel_rfl) (by decide) _ rfl (.tmp 95) (.tmp 97) rfl w.heap.size w.heap.size (Nat.le_refl _) v pre (x0 : Int) (x2 : Int) (x4 : Int) (x6 : Int) (x8 : Int) yb bs A5 c5 nn HQ5.out.len rfl HO4.out HTL.out rfl HI4.out HB4.out.size ?_; intro v9 w9 ho9 hd9 hf9; have HG : Hid (RpR w B (.int .i64 (q : Int)) v9 w9) := Lib.hid (HNX.out (by first | rfl | trivial) v9 w9 ho9 (HB4.out.trans hd9)); clear ho9 hd9 hf9)
                  have hm5 := HM5.out
                  go_wp2
                  go_roundw
                  case rel => exact HG.out
                  case measure => simp [intOf]; omega
            · go_simp
              refine hK.out _ _ (HK.out _ (hHeld.2.2.alloc hHeld.2.2.size _)) (fun hHeld18 => ?_)
              clear hK K
              (try simp only [Act.put, List.getElem_toArray, List.getElem_cons_succ, List.getElem_cons_zero, List.setIfInBounds_toArray, List.set_cons_zero, List.set_cons_succ])
              refine wpAnyF_ready (rs := [17]) (by kernel_rfl) (by simp) ?_
              refine AllReadyF.cons (o := _) rfl (fun K hK => ?_) AllReadyF.nil
              go_simp
              (go_at_call 31)
              refine (HG2.out _ hHeld18.2.2).mono ?_
              rintro e w1 ⟨rfl, rfl⟩
              refine hK.out _ _ (hHeld18) (fun hHeld19 => ?_)
              clear hK K
              (try simp only [Act.put, List.getElem_toArray, List.getElem_cons_succ, List.getElem_cons_zero, List.setIfInBounds_toArray, List.set_cons_zero, List.set_cons_succ])
              refine wpAnyF_take (i := 18) (oi := _) (v := ?_) rfl (by kernel_rfl) (by kernel_rfl) (by kernel_rfl) (by kernel_rfl) (fun _ _ _ h => h) (Or.inl ⟨by rfl, ?_⟩) (by assumption) ?_
              rotate_left 1
              · intro w hSw
                (try dsimp only at hSw)
                (first | (go_simp; done) | (go_simp; with_reducible rfl))
              (try simp only [Act.put, List.getElem_toArray, List.getElem_cons_succ, List.getElem_cons_zero, List.setIfInBounds_toArray, List.set_cons_zero, List.set_cons_succ])
              refine wpAnyF_ready (rs := [25]) (by kernel_rfl) (by simp) ?_
              refine AllReadyF.cons (o := _) rfl (fun K hK => ?_) AllReadyF.nil
              go_simp
              (go_at_call 31)
              refine (HG4.out _ hHeld19.2.2).mono ?_
              rintro e w2 ⟨rfl, rfl⟩
              refine hK.out _ _ (hHeld19) (fun hHeld20 => ?_)
              clear hK K
              (try simp only [Act.put, List.getElem_toArray, List.getElem_cons_succ, List.getElem_cons_zero, List.setIfInBounds_toArray, List.set_cons_zero, List.set_cons_succ])
              refine wpAnyF_take (i := 26) (oi := _) (v := ?_) rfl (by kernel_rfl) (by kernel_rfl) (by kernel_rfl) (by kernel_rfl) (fun _ _ _ h => h) (Or.inl ⟨by rfl, ?_⟩) (by assumption) ?_
              rotate_left 1
              · intro w hSw
                (try dsimp only at hSw)
                (first | (go_simp; done) | (go_simp; with_reducible rfl))
              (try simp only [Act.put, List.getElem_toArray, List.getElem_cons_succ, List.getElem_cons_zero, List.setIfInBounds_toArray, List.set_cons_zero, List.set_cons_succ])
              refine wpAnyF_ready (rs := [33]) (by kernel_rfl) (by simp) ?_
              refine AllReadyF.cons (o := _) rfl (fun K hK => ?_) AllReadyF.nil
              go_simp
              (go_at_call 31)
              refine (HG6.out _ hHeld20.2.2).mono ?_
              rintro e w3 ⟨rfl, rfl⟩
              refine hK.out _ _ (hHeld20) (fun hHeld21 => ?_)
              clear hK K
              (try simp only [Act.put, List.getElem_toArray, List.getElem_cons_succ, List.getElem_cons_zero, List.setIfInBounds_toArray, List.set_cons_zero, List.set_cons_succ])
              refine wpAnyF_take (i := 34) (oi := _) (v := ?_) rfl (by kernel_rfl) (by kernel_rfl) (by kernel_rfl) (by kernel_rfl) (fun _ _ _ h => h) (Or.inl ⟨by rfl, ?_⟩) (by assumption) ?_
              rotate_left 1
              · intro w hSw
                (try dsimp only at hSw)
                (first | (go_simp; done) | (go_simp; with_reducible rfl))
              (try simp only [Act.put, List.getElem_toArray, List.getElem_cons_succ, List.getElem_cons_zero, List.setIfInBounds_toArray, List.set_cons_zero, List.set_cons_succ])
              refine wpAnyF_ready (rs := [41]) (by kernel_rfl) (by simp) ?_
              refine AllReadyF.cons (o := _) rfl (fun K hK => ?_) AllReadyF.nil
              go_simp
              (go_at_call 31)
              refine (HG8.out _ hHeld21.2.2).mono ?_
              rintro e w4 ⟨rfl, rfl⟩
              refine hK.out _ _ (hHeld21) (fun hHeld22 => ?_)
              clear hK K
              (try simp only [Act.put, List.getElem_toArray, List.getElem_cons_succ, List.getElem_cons_zero, List.setIfInBounds_toArray, List.set_cons_zero, List.set_cons_succ])
              refine wpAnyF_take (i := 42) (oi := _) (v := ?_) rfl (by kernel_rfl) (by kernel_rfl) (by kernel_rfl) (by kernel_rfl) (fun _ _ _ h => h) (Or.inl ⟨by rfl, ?_⟩) (by assumption) ?_
              rotate_left 1
              · intro w hSw
                (try dsimp only at hSw)
                (first | (go_simp; done) | (go_simp; with_reducible rfl))
              (try simp only [Act.put, List.getElem_toArray, List.getElem_cons_succ, List.getElem_cons_zero, List.setIfInBounds_toArray, List.set_cons_zero, List.set_cons_succ])
              refine wpAnyF_take (i := 51) (oi := _) (v := ?_) rfl (by kernel_rfl) (by kernel_rfl) (by kernel_rfl) (by kernel_rfl) (fun _ _ _ h => h) (Or.inl ⟨by rfl, ?_⟩) (by assumption) ?_
              rotate_left 1
              · intro w hSw
                (try dsimp only at hSw)
                (first | (go_simp; done) | (go_simp; with_reducible rfl))
              (try simp only [Act.put, List.getElem_toArray, List.getElem_cons_succ, List.getElem_cons_zero, List.setIfInBounds_toArray, List.set_cons_zero, List.set_cons_succ])
              refine wpAnyF_ready (rs := [53]) (by kernel_rfl) (by simp) ?_
              refine AllReadyF.cons (o := _) rfl (fun K hK => ?_) AllReadyF.nil
              go_simp
              refine hK.out _ _ (HK.out _ ((Below.refl _ _).alloc (Nat.le_refl _) _).drew) (fun hHeld99 => ?_)
              clear hK K
              (try simp only [Act.put, List.getElem_toArray, List.getElem_cons_succ, List.getElem_cons_zero, List.setIfInBounds_toArray, List.set_cons_zero, List.set_cons_succ])
              refine wpAnyF_done (by kernel_rfl) ?_ _
              have HB2 := Lib.hid (HB.out.trans (((Below.refl wr.heap.size wr).alloc (Nat.le_refl _) (.cells #[.int .i64 (x0 : Int), .bool yb, .int .i64 (x2 : Int), .int .i64 (x4 : Int), .int .i64 (x6 : Int), .int .i64 (x8 : Int), .slice A5 nn c5] 26)).drew.mono HB.out.size))
              have HX0 : Hid ((wr.alloc (.cells #[.int .i64 (x0 : Int), .bool yb, .int .i64 (x2 : Int), .int .i64 (x4 : Int), .int .i64 (x6 : Int), .int .i64 (x8 : Int), .slice A5 nn c5] 26)).drew.heap[wr.heap.size]? = some (.cells #[.int .i64 (x0 : Int), .bool yb, .int .i64 (x2 : Int), .int .i64 (x4 : Int), .int .i64 (x6 : Int), .int .i64 (x8 : Int), .slice A5 nn c5] 26 (0, 0))) := Lib.hid (heap_alloc_new wr _)
              have HAW : Hid (Below wr.heap.size wr (wr.alloc (.cells #[.int .i64 (x0 : Int), .bool yb, .int .i64 (x2 : Int), .int .i64 (x4 : Int), .int .i64 (x6 : Int), .int .i64 (x8 : Int), .slice A5 nn c5] 26)).drew) := Lib.hid ((Below.refl wr.heap.size wr).alloc (Nat.le_refl _) (.cells #[.int .i64 (x0 : Int), .bool yb, .int .i64 (x2 : Int), .int .i64 (x4 : Int), .int .i64 (x6 : Int), .int .i64 (x8 : Int), .slice A5 nn c5] 26)).drew
              clear HG2 HG4 HG6 HG8 HK
              have HMX := Lib.hid (HMAY.out _ HAW.out)
              go_wp2_with fail
              generalize (wr.alloc (.cells #[.int .i64 (x0 : Int), .bool yb, .int .i64 (x2 : Int), .int .i64 (x4 : Int), .int .i64 (x6 : Int), .int .i64 (x8 : Int), .slice A5 nn c5] 26)).drew = w3 at *
              refine HMX.out.mono ?_
              rintro e w4 ⟨rfl, hb4⟩
              have HB4 : Hid (Below w.heap.size w w4) := Lib.hid (HB2.out.trans (hb4.mono HB2.out.size))
              have HW4 : Hid (Below wr.heap.size wr w4) := Lib.hid (HAW.out.trans (hb4.mono HAW.out.size))
              have HX4 : Hid (w4.heap[wr.heap.size]? = some (.cells #[.int .i64 (x0 : Int), .bool yb, .int .i64 (x2 : Int), .int .i64 (x4 : Int), .int .i64 (x6 : Int), .int .i64 (x8 : Int), .slice A5 nn c5] 26 (0, 0))) := Lib.hid ((hb4.block _ (blk_lt HX0.out)).trans HX0.out)
              clear hb4
              cases R
              · have HF : Hid (RParseTo w B (.returned (.tuple #[.slice none 0 0, .bool false])) w4) := Lib.hid ⟨HB4.out, .inl ⟨HNONE.out (HNO.out (by first | rfl | trivial)), rfl⟩⟩
                go_wp2
                exact bodyPost_ret (v := .tuple #[.slice none 0 0, .bool false]) (by simp [results, Try.results17, go_sem]) rfl HF.out
              · have HO4 : Hid (AcO 26 w4 w.heap.size w.heap.size v pre) := Lib.hid (HO.out.below (Nat.le_refl _) HB.out.size HW4.out)
                have HI4 : Hid (EnI w4 w.heap.size w.heap.size A5 c5 bs) := Lib.hid ⟨.inl (by rw [HQ5.out.len]; exact HQ5.out.below HB4.out), HZ5.out⟩
                have d0 : w4.cell? ⟨wr.heap.size, 0, none⟩ = some (.int .i64 (x0 : Int)) := blk_cell HX4.out 0
                have d1 : w4.cell? ⟨wr.heap.size, 1, none⟩ = some (.bool yb) := blk_cell HX4.out 1
                have d2 : w4.cell? ⟨wr.heap.size, 2, none⟩ = some (.int .i64 (x2 : Int)) := blk_cell HX4.out 2
                have d3 : w4.cell? ⟨wr.heap.size, 3, none⟩ = some (.int .i64 (x4 : Int)) := blk_cell HX4.out 3
                have d4 : w4.cell? ⟨wr.heap.size, 4, none⟩ = some (.int .i64 (x6 : Int)) := blk_cell HX4.out 4
                have d5 : w4.cell? ⟨wr.heap.size, 5, none⟩ = some (.int .i64 (x8 : Int)) := blk_cell HX4.out 5
                have d6 : w4.cell? ⟨wr.heap.size, 6, none⟩ = some (.slice A5 nn c5) := blk_cell HX4.out 6
                go_upto_region 13 with (at_builtin; refine wp_appA 26 22 Try.underlying22 (by kernel_rfl) (by decide) _ rfl (.tmp 95) (.tmp 97) rfl w.heap.size w.heap.size (Nat.le_refl _) v pre (x0 : Int) (x2 : Int) (x4 : Int) (x6 : Int) (x8 : Int) yb bs A5 c5 nn HQ5.out.len rfl HO4.out HTL.out rfl HI4.out HB4.out.size ?_; intro v9 w9 ho9 hd9 hf9; have HG : Hid (RpR w B (.int .i64 (q : Int)) v9 w9) := Lib.hid (HNX.out (by first | rfl | trivial) v9 w9 ho9 (HB4.out.trans hd9)); clear ho9 hd9 hf9)
                have hm5 := HM5.out
                go_wp2
                go_roundw
                case rel => exact HG.out
                case measure => simp [intOf]; omega
    · obtain rfl : p = N := by omega
      have HF : Hid (RParseTo w B (.returned (.tuple #[v, .bool true])) wr) := Lib.hid ⟨HB.out, .inr ⟨pre, v, by
        have h := HPAR.out
        rw [List.drop_eq_nil_of_le (by rw [HL.out]; exact Nat.le_refl _), parseL_nil] at h
        rw [h]; simp, rfl, HO.out, by rw [HL.out]; exact hpl⟩⟩
      clear HO
      go_wp2
      exact bodyPost_ret (v := .tuple #[v, .bool true]) (by simp [results, Try.results17, go_sem]) rfl HF.out
end Go.Proofs.Ytkgmggjlnibgmaa
