/-
  The document's Kept.
-/
import Derived.Test.YtgblgnmblbmnjaaBkN
import Derived.Great.Ranges
import Derived.Deep.RegionHeld3
namespace Go.Proofs.Ytgblgnmblbmnjaa
open Go.RowKit Go
set_option linter.unusedVariables false
set_option linter.unusedSimpArgs false
/-! ### lists -/
def clq (t k : List Nat) : Bool := !decide (k = t) && decide (Sha.sum k = Sha.sum t)
def rstep (s : List (List Nat) × Bool) (t : List Nat) : List (List Nat) × Bool := (if t ∈ s.1 then s.1 else s.1 ++ [t], s.2 || s.1.any (clq t))
def rst (L : List (List Nat)) : List (List Nat) × Bool := L.foldl rstep ([], false)
theorem rst_app (L : List (List Nat)) (t : List Nat) : rst (L ++ [t]) = rstep (rst L) t := by unfold rst; rw [List.foldl_append]; rfl
theorem snoc_ind {α : Type} {P : List α → Prop} (h0 : P []) (h1 : ∀ l a, P l → P (l ++ [a])) (l : List α) : P l := by
  have key : ∀ l : List α, P l.reverse := by
    intro l
    induction l with
    | nil => exact h0
    | cons a l ih => rw [List.reverse_cons]; exact h1 _ _ ih
  have h := key l.reverse
  rwa [List.reverse_reverse] at h
theorem rst_len (L : List (List Nat)) : (rst L).1.length ≤ L.length := by
  refine snoc_ind (P := fun L => (rst L).1.length ≤ L.length) (by simp [rst]) (fun L t ih => ?_) L
  show (rst (L ++ [t])).1.length ≤ (L ++ [t]).length
  rw [rst_app, List.length_append]
  unfold rstep
  simp only
  split
  · simp; omega
  · rw [List.length_append]; simp; omega
theorem rst_mem (M : List (List Nat)) : ∀ k ∈ (rst M).1, k ∈ M := by
  refine snoc_ind (P := fun M => ∀ k ∈ (rst M).1, k ∈ M) (by intro k hk; simp [rst] at hk) (fun M t ih => ?_) M
  intro k hk
  rw [rst_app] at hk
  unfold rstep at hk
  simp only at hk
  split at hk
  · exact List.mem_append_left _ (ih k hk)
  · rcases List.mem_append.mp hk with hk | hk
    · exact List.mem_append_left _ (ih k hk)
    · exact List.mem_append_right _ hk
structure Inv (T sh : List (List Nat)) (s : List (List Nat) × Bool) : Prop where
  same : T = s.1
  told : sh ≠ [] ↔ s.2 = true
  apart : s.2 = false → ∀ x ∈ T, ∀ y ∈ T, x ≠ y → Sha.sum x ≠ Sha.sum y
theorem Inv.start : Inv [] [] ([], false) := ⟨rfl, by simp, fun _ x hx => by cases hx⟩
theorem any_clq {K : List (List Nat)} {t : List Nat} : K.any (clq t) = true ↔ ∃ k ∈ K, k ≠ t ∧ Sha.sum k = Sha.sum t := by
  rw [List.any_eq_true]
  constructor
  · rintro ⟨k, hk, h⟩
    unfold clq at h
    simp at h
    exact ⟨k, hk, h.1, h.2⟩
  · rintro ⟨k, hk, h1, h2⟩
    exact ⟨k, hk, by unfold clq; simp [h1, h2]⟩
theorem Inv.step {T sh : List (List Nat)} {s : List (List Nat) × Bool} {t : List Nat} (h : Inv T sh s) (hT : T.length < 16384) : Inv (bkT T t) (bkS T sh t) (rstep s t) := by
  obtain ⟨rfl, h2, h3⟩ := h
  obtain ⟨K, c⟩ := s
  simp only at h2 h3 hT ⊢
  by_cases ht : t ∈ K
  · have e1 : bkT K t = K := by unfold bkT; rw [if_pos ht]
    have e2 : bkS K sh t = sh := by unfold bkS; rw [if_pos ht]
    have e3 : rstep (K, c) t = (K, c) := by
      unfold rstep
      simp only [if_pos ht]
      cases c with
      | true => simp
      | false =>
        have : K.any (clq t) = false := by
          rw [Bool.eq_false_iff]
          intro q
          obtain ⟨k, hk, hn, he⟩ := any_clq.mp q
          exact h3 rfl k hk t ht hn he
        rw [this]; rfl
    rw [e1, e2, e3]
    exact ⟨rfl, h2, h3⟩
  · have e1 : bkT K t = K ++ [t] := by unfold bkT; rw [if_neg ht, if_pos hT]
    have ha : atD K (Sha.sum t) ≠ [] ↔ K.any (clq t) = true := by
      rw [any_clq]
      constructor
      · intro q
        obtain ⟨x, hx⟩ := List.exists_mem_of_ne_nil _ q
        have hx2 : x ∈ K ∧ Sha.sum x = Sha.sum t := by unfold atD at hx; simpa using hx
        exact ⟨x, hx2.1, fun e => ht (e ▸ hx2.1), hx2.2⟩
      · rintro ⟨k, hk, _, he⟩ q
        have : k ∈ atD K (Sha.sum t) := by unfold atD; simp [hk, he]
        rw [q] at this; cases this
    have e3 : rstep (K, c) t = (K ++ [t], c || K.any (clq t)) := by unfold rstep; simp only [if_neg ht]
    rw [e1, e3]
    refine ⟨rfl, ?_, fun hc x hx y hy hne => ?_⟩
    · show bkS K sh t ≠ [] ↔ (c || K.any (clq t)) = true
      rw [Bool.or_eq_true, ← ha, ← h2]
      unfold bkS
      rw [if_neg ht]
      split
      · rename_i q
        simp [q.1]
      · rename_i q
        constructor
        · intro z; exact .inl z
        · rintro (z | z)
          · exact z
          · intro w; exact q ⟨z, w⟩
    · have hc2 : (c || K.any (clq t)) = false := hc
      rw [Bool.or_eq_false_iff] at hc2
      have hno : ∀ k ∈ K, k ≠ t → Sha.sum k ≠ Sha.sum t := fun k hk hn he => by
        have := any_clq.mpr ⟨k, hk, hn, he⟩
        rw [hc2.2] at this; cases this
      rcases List.mem_append.mp hx with hx | hx
      · rcases List.mem_append.mp hy with hy | hy
        · exact h3 hc2.1 x hx y hy hne
        · rw [List.mem_singleton.mp hy] at hne ⊢
          exact hno x hx hne
      · rw [List.mem_singleton.mp hx] at hne ⊢
        rcases List.mem_append.mp hy with hy | hy
        · exact fun e => hno y hy (Ne.symm hne) e.symm
        · exact absurd (List.mem_singleton.mp hy).symm hne
/-! ### in memory -/
theorem TI.bsz {w : World} {S : Nat → Prop} {l : List Nat} {v : Value} (h : TI w S l v) : ∃ A c, v = .slice A l.length c ∧ BS w w.heap.size A l.length c l ∧ (A = none → c = 0) := by
  have hn : ∀ A c, v = .slice A l.length c → A = none → c = 0 := fun A c e hA => by
    rcases h.1.2 with ⟨rfl, _⟩ | ⟨g, cap, cur, rfl, _⟩
    · injection e with _ _ e3; exact e3.symm
    · subst hA; cases e
  obtain ⟨A, c, rfl, hb⟩ := h.bs
  exact ⟨A, c, rfl, hb, hn A c rfl⟩
theorem BS.below2 {w w' : World} {B n c : Nat} {A : Option Addr} {l : List Nat} (h : BS w B A n c l) (hb : Below w.heap.size w w') (hB : B ≤ w.heap.size) : BS w' B A n c l := h.keep fun p hp => hb.cell (Nat.lt_of_lt_of_le hp hB)
theorem wp_apd {P : Program} {ops : Array Oper} {rest : List Oper} {o : Oper} {a : Act} {Q : Exit → Act → World → Prop} (W : World) (hgd : o.guard = none) (t ty : TypeId) (s x : Operand) (ho : o.op = .call { callee := .builtin .append, args := #[s, x], argTypes := #[t, t] }) (hty : o.type = ty)
    (v y v' : Value) (w' : World) (hs : a.eval s = v) (hx : a.eval x = y) (hr : (Builtin.append_ #[t, t] ty #[v, y]).run P W = .ok v' w') (h : wpList P ops Q rest (a.put o.dst v') w') : wpList P ops Q (o :: rest) a W :=
  wpList_plain hgd fun _ hK => step_apd W t ty s x ho hty v y v' w' hs hx hr (hK _ _ h)
theorem eq32b (x y : List Nat) (W : World) : (Op.equalIn 10000 32 (.agg (digA x)) (.agg (digA y))).run Try.prog W = .ok (decide (Sha.sum x = Sha.sum y)) W :=
  equal_row 32 32 Try.underlying32 (Sha.sum x) (Sha.sum y) (bk_dig x).1 (bk_dig y).1 W
def KiR (W0 : World) (K : List (List Nat)) (t : List Nat) (c0 : Bool) (jv tv cv : Value) (wr : World) : Prop :=
  ∃ j : Nat, jv = .int .i64 (j : Int) ∧ j ≤ K.length ∧ tv = .bool (decide (t ∈ K.take j)) ∧ cv = .bool (c0 || (K.take j).any (clq t)) ∧ Below W0.heap.size W0 wr
theorem take_mem {K : List (List Nat)} {t : List Nat} {j : Nat} (h : j < K.length) : decide (t ∈ K.take (j + 1)) = (decide (t ∈ K.take j) || decide (K.getD j [] = t)) := by
  have e : K.getD j [] = K[j] := by simp [List.getD, List.getElem?_eq_getElem h]
  rw [e, List.take_succ_eq_append_getElem h]
  have q : (t ∈ K.take j ++ [K[j]]) ↔ (t ∈ K.take j ∨ K[j] = t) := by rw [List.mem_append, List.mem_singleton]; exact ⟨fun z => z.imp id Eq.symm, fun z => z.imp id Eq.symm⟩
  rw [decide_eq_decide.mpr q, Bool.decide_or]
theorem take_anyq {K : List (List Nat)} {f : List Nat → Bool} {j : Nat} (h : j < K.length) : (K.take (j + 1)).any f = ((K.take j).any f || f (K.getD j [])) := by
  have e : K.getD j [] = K[j] := by simp [List.getD, List.getElem?_eq_getElem h]
  rw [e, List.take_succ_eq_append_getElem h, List.any_append, List.any_cons, List.any_nil, Bool.or_false]
def KoR (w : World) (L : List (List Nat)) (iv kv cv : Value) (wr : World) : Prop :=
  ∃ i : Nat, iv = .int .i64 (i : Int) ∧ i ≤ L.length ∧ TR wr (fun _ => True) kv (rst (L.take i)).1 ∧ (∀ k, kv.ownBlock = some k → w.heap.size ≤ k) ∧ cv = .bool (rst (L.take i)).2 ∧ Below w.heap.size w wr
set_option maxHeartbeats 8000000 in
set_option maxRecDepth 100000 in
theorem kept_any (v : Value) (L : List (List Nat)) (N : Nat → Prop) (w : World) (h : TR w N v L) (hn : L.length ≤ 1000) (htl : ∀ t ∈ L, t.length ≤ 1000) :
    Calls Try.prog 14 #[v] w fun e w' => e = .returned (.tuple #[.int .i64 ((rst L).1.length : Int), .bool (rst L).2]) ∧ Below w.heap.size w w' := by
  obtain ⟨A, c, rfl, h0⟩ := h.val
  have HTR := Lib.hid h
  have H0 : Hid (KoR w L (.int .i64 0) (.slice none 0 0) (.bool false) w) := Lib.hid ⟨0, rfl, by omega, TR.nil _ _, fun k hk => (by cases hk), rfl, Below.refl _ _⟩
  have HTL := Lib.hid htl
  have HFIN : Hid (∀ i, i = L.length → L.take i = L) := Lib.hid fun i hi => by rw [hi, List.take_length]
  obtain ⟨n, hn2⟩ : ∃ n, n = L.length := ⟨_, rfl⟩
  have HN := Lib.hid hn2
  have hA : 0 < n → ∃ gg, A = some ⟨gg, 0, none⟩ ∧ n ≤ c := fun q => by
    obtain ⟨gg, e, _, e2, _⟩ := h0 (by omega)
    exact ⟨gg, e, by omega⟩
  rw [← hn2] at hn ⊢
  have HA := Lib.hid hA
  clear h h0 htl hn2 hA
  go_enter Try.func14, Try.ntmps14
  go_wp2_with fail
  go_loopw [13, 4, 5] (fun iv kv cv wr => KoR w L iv kv cv wr) (fun iv _ _ _ => (n - intOf iv).toNat)
  case atStart => exact H0.out
  case round =>
    clear H0
    obtain ⟨i, rfl, hi, hK, hKo, rfl, hb⟩ := hrel
    rw [← HN.out] at hi
    have HB := Lib.hid hb
    have HKT := Lib.hid hK
    have HKO := Lib.hid hKo
    clear hb hK hKo
    by_cases hlt : i < n
    · obtain ⟨gg, rfl, hcn⟩ := HA.out (by omega)
      obtain ⟨g2, cap2, e2, _, hg2, hat⟩ := HTR.out.at_ (by have := HN.out; omega)
      injection e2 with e21 e22 e23
      injection e21 with e21
      injection e21 with e21 _ _
      subst e21
      subst e23
      clear e22
      obtain ⟨x, x1, x2⟩ := hat i (by have := HN.out; omega)
      obtain ⟨At, ct, rfl, hbt, hzt⟩ := x2.bsz
      have p1 : wr.cell? ⟨gg, i, none⟩ = some (.slice At (L.getD i []).length ct) := (HB.out.cell (p := ⟨gg, i, none⟩) hg2).trans x1
      have hg3 : gg < wr.heap.size := Nat.lt_of_lt_of_le hg2 HB.out.size
      have HBT := Lib.hid hbt
      have HZT := Lib.hid hzt
      have HX2 := Lib.hid x2
      have hmem : L.getD i [] ∈ L := by
        have hi2 : i < L.length := by have := HN.out; omega
        have e : L.getD i [] = L[i] := by simp [List.getD, List.getElem?_eq_getElem hi2]
        rw [e]; exact List.getElem_mem hi2
      have htt := HTL.out _ hmem
      have HTAKE : Hid (rst (L.take (i + 1)) = rstep (rst (L.take i)) (L.getD i [])) := Lib.hid (by
        have hi2 : i < L.length := by have := HN.out; omega
        have e : L.getD i [] = L[i] := by simp [List.getD, List.getElem?_eq_getElem hi2]
        rw [e, List.take_succ_eq_append_getElem hi2, rst_app])
      have HKL : Hid ((rst (L.take i)).1.length ≤ 1000) := Lib.hid (by have := rst_len (L.take i); rw [List.length_take] at this; have := HN.out; omega)
      have HNX : Hid (∀ kv W, TR W (fun _ => True) kv (rstep (rst (L.take i)) (L.getD i [])).1 → (∀ k, kv.ownBlock = some k → w.heap.size ≤ k) → Below w.heap.size w W → KoR w L (.int .i64 ((i : Int) + 1)) kv (.bool (rstep (rst (L.take i)) (L.getD i [])).2) W) := Lib.hid fun kv W z1 z3 z2 => ⟨i + 1, rfl, by have := HN.out; omega, by rw [HTAKE.out]; exact z1, z3, by rw [HTAKE.out], z2⟩
      have HKM : Hid (∀ k ∈ (rst (L.take i)).1, k.length ≤ 1000) := Lib.hid fun k hk => HTL.out k (List.mem_of_mem_take (rst_mem _ k hk))
      clear HTAKE hmem x1 x2 hbt hzt hat
      obtain ⟨mt, hmt⟩ : ∃ mt, mt = (L.getD i []).length := ⟨_, rfl⟩
      have HMT := Lib.hid hmt
      rw [← hmt] at p1 HBT HX2 htt
      clear hmt
      generalize L.getD i [] = t at *
      obtain ⟨s, hs⟩ : ∃ s, s = rst (L.take i) := ⟨_, rfl⟩
      rw [← hs] at HNX HKT HKL HKM ⊢
      clear hs
      obtain ⟨K, c0⟩ := s
      have HKT2 : Hid (TR wr (fun _ => True) u4 K) := Lib.hid HKT.out
      obtain ⟨Ak, ck, rfl, hk0⟩ := HKT2.out.val
      have HK0 := Lib.hid hk0
      obtain ⟨m, hm⟩ : ∃ m, m = K.length := ⟨_, rfl⟩
      have HM := Lib.hid hm
      have hkl : m ≤ 1000 := by have := HKL.out; simp only at this; omega
      have HI0 : Hid (KiR wr K t c0 (.int .i64 0) (.bool false) (.bool c0) wr) := Lib.hid ⟨0, rfl, by omega, by simp, by simp, Below.refl _ _⟩
      have HKK : Hid (∀ j, j < m → ∃ gk Aj cj, Ak = some ⟨gk, 0, none⟩ ∧ gk < wr.heap.size ∧ wr.cell? ⟨gk, j, none⟩ = some (.slice Aj (K.getD j []).length cj) ∧ BS wr wr.heap.size Aj (K.getD j []).length cj (K.getD j []) ∧ (Aj = none → cj = 0) ∧ (K.getD j []).length ≤ 1000 ∧ m ≤ ck) := Lib.hid fun j hj => by
        obtain ⟨g9, cap9, e9, hc9, hg9, hat9⟩ := HKT2.out.at_ (by omega)
        injection e9 with e91 e92 e93
        obtain ⟨x, y1, y2⟩ := hat9 j (by omega)
        obtain ⟨Aj, cj, rfl, y3, y4⟩ := y2.bsz
        refine ⟨g9, Aj, cj, e91, hg9, y1, y3, y4, HKM.out _ ?_, by omega⟩
        have e : K.getD j [] = K[j]'(by omega) := by simp [List.getD, List.getElem?_eq_getElem (show j < K.length by omega)]
        show K.getD j [] ∈ K
        rw [e]; exact List.getElem_mem _
      rw [← hm]
      clear hm hk0 HKM HKL HKT
      have HNX2 : Hid (∀ kv W, TR W (fun _ => True) kv (if t ∈ K then K else K ++ [t]) → (∀ k, kv.ownBlock = some k → w.heap.size ≤ k) → Below w.heap.size w W → KoR w L (.int .i64 ((i : Int) + 1)) kv (.bool (c0 || K.any (clq t))) W) := Lib.hid fun kv W z1 z2 z3 => HNX.out kv W z1 z2 z3
      clear HNX
      rename World => W0
      go_wp2_with fail
      go_loopw [19, 8, 5] (fun jv tv cv wr => KiR W0 K t c0 jv tv cv wr) (fun jv _ _ _ => (m - intOf jv).toNat)
      case atStart => exact HI0.out
      case round =>
        clear HI0 p1
        obtain ⟨j, rfl, hj, rfl, rfl, hb2⟩ := hrel
        have HB2 := Lib.hid hb2
        rw [← HM.out] at hj
        have HBT2 : Hid (BS wr wr.heap.size At mt ct t) := Lib.hid (((HBT.out.below HB.out).below2 hb2 HB.out.size).more (Nat.le_trans HB.out.size hb2.size))
        clear hb2
        by_cases hjm : j < m
        · obtain ⟨gk, Aj, cj, rfl, hgk, y1, y2, y3, y4, y5⟩ := HKK.out j hjm
          have p2 : wr.cell? ⟨gk, j, none⟩ = some (.slice Aj (K.getD j []).length cj) := (HB2.out.cell (p := ⟨gk, j, none⟩) hgk).trans y1
          have hgk2 : gk < wr.heap.size := Nat.lt_of_lt_of_le hgk HB2.out.size
          have HSJ : Hid (BS wr wr.heap.size Aj (K.getD j []).length cj (K.getD j [])) := Lib.hid ((y2.below HB2.out).more HB2.out.size)
          have HZJ := Lib.hid y3
          have HRX : Hid (∀ tv cv W, tv = .bool (decide (t ∈ K.take j) || decide (K.getD j [] = t)) → cv = .bool ((c0 || (K.take j).any (clq t)) || clq t (K.getD j [])) → Below W0.heap.size W0 W → KiR W0 K t c0 (.int .i64 ((j : Int) + 1)) tv cv W) := Lib.hid fun tv cv W z1 z2 z3 => ⟨j + 1, rfl, by rw [← HM.out]; omega, by rw [z1, take_mem (by rw [← HM.out]; exact hjm)], by rw [z2, take_anyq (by rw [← HM.out]; exact hjm), Bool.or_assoc], z3⟩
          clear y1 y2 y3
          obtain ⟨mk, hmk⟩ : ∃ mk, mk = (K.getD j []).length := ⟨_, rfl⟩
          rw [← hmk] at p2 HSJ y4
          clear hmk
          generalize K.getD j [] = kj at *
          generalize decide (t ∈ K.take j) = th at *
          generalize (c0 || (K.take j).any (clq t)) = cl at *
          have hcv1 := bk_conv HSJ.out
          have hcv2 := bk_conv HBT2.out
          obtain ⟨da, hda⟩ : ∃ da, da = digA kj := ⟨_, rfl⟩
          obtain ⟨db, hdb⟩ : ∃ db, db = digA t := ⟨_, rfl⟩
          have HDA := Lib.hid hda
          have HDB := Lib.hid hdb
          have heq := eq32b kj t
          rw [← hda, ← hdb] at heq
          clear hda hdb
          by_cases hkt : kj = t
          · have hq : ((str kj).toList == (str t).toList) = true := by rw [hkt]; simp
            have HX : Hid (∀ tv cv, tv = .bool true → cv = .bool cl → KiR W0 K t c0 (.int .i64 ((j : Int) + 1)) tv cv wr) := Lib.hid fun tv cv z1 z2 => HRX.out tv cv wr (by rw [z1]; simp [hkt]) (by rw [z2]; simp [clq, hkt]) HB2.out
            clear hkt HRX heq
            cases th <;> cases cl
            all_goals
              go_wp2
              go_roundw
              case rel => exact HX.out _ _ rfl rfl
              case measure => simp [intOf]; omega
          · have hq : ((str kj).toList == (str t).toList) = false := str_ne HSJ.out.byte HBT2.out.byte hkt
            have HX : Hid (∀ tv cv W, tv = .bool th → cv = .bool (cl || decide (Sha.sum kj = Sha.sum t)) → Below W0.heap.size W0 W → KiR W0 K t c0 (.int .i64 ((j : Int) + 1)) tv cv W) := Lib.hid fun tv cv W z1 z2 z3 => HRX.out tv cv W (by rw [z1]; simp [hkt]) (by rw [z2]; simp [clq, hkt]) z3
            clear hkt HRX
            generalize decide (Sha.sum kj = Sha.sum t) = sm at *
            cases cl
            · cases th
              all_goals
                go_wp2_with fail
                refine (refSum_any Aj mk cj kj wr HSJ.out HZJ.out (by omega)).mono ?_
                rintro e w4 ⟨rfl, hb4⟩
                rw [← HDA.out]
                have HB4 := Lib.hid hb4
                have HS5 : Hid (BS w4 w4.heap.size At mt ct t) := Lib.hid ((HBT2.out.below hb4).more hb4.size)
                clear hb4
                go_wp2_with fail
                refine (refSum_any At mt ct t w4 HS5.out HZT.out (by omega)).mono ?_
                rintro e w5 ⟨rfl, hb5⟩
                rw [← HDB.out]
                have HB5 : Hid (Below W0.heap.size W0 w5) := Lib.hid (HB2.out.trans ((HB4.out.trans (hb5.mono HB4.out.size)).mono HB2.out.size))
                clear hb5
                cases sm
                all_goals
                  go_wp2
                  go_roundw
                  case rel => exact HX.out _ _ _ rfl rfl HB5.out
                  case measure => simp [intOf]; omega
            · have HX2' : Hid (∀ tv cv, tv = .bool th → cv = .bool true → KiR W0 K t c0 (.int .i64 ((j : Int) + 1)) tv cv wr) := Lib.hid fun tv cv z1 z2 => HX.out tv cv wr z1 (by rw [z2]; simp) HB2.out
              clear HX heq
              cases th
              all_goals
                go_wp2
                go_roundw
                case rel => exact HX2'.out _ _ rfl rfl
                case measure => simp [intOf]; omega
        · obtain rfl : j = m := by omega
          have hKm : K.take j = K := by rw [HM.out, List.take_length]
          rw [hKm]
          have HB3 : Hid (Below w.heap.size w wr) := Lib.hid (HB.out.trans (HB2.out.mono HB.out.size))
          have hTK : TR wr (fun _ => True) (.slice Ak j ck) K := by
            have h9 := HKT2.out.keep (w' := wr) (S' := fun _ => True) (fun q hq _ => HB2.out.block q hq) (fun _ _ => trivial)
            rw [← HM.out] at h9
            exact h9
          have HTK := Lib.hid hTK
          have hKo : ∀ k, (Value.slice Ak j ck).ownBlock = some k → w.heap.size ≤ k := by
            have h9 := HKO.out
            rw [← HM.out] at h9
            exact h9
          have HKO2 := Lib.hid hKo
          clear hKm hTK hKo
          by_cases hin : t ∈ K
          · rw [decide_eq_true hin]
            have HR : Hid (KoR w L (.int .i64 ((i : Int) + 1)) (.slice Ak j ck) (.bool (c0 || K.any (clq t))) wr) := Lib.hid (HNX2.out _ _ (by rw [if_pos hin]; exact HTK.out) HKO2.out HB3.out)
            clear hin HNX2
            go_wp2
            go_roundw
            case rel => exact HR.out
            case measure => simp [intOf]; omega
          · rw [decide_eq_false hin]
            have hb9 : Below wr.heap.size wr (wr.alloc (.cells #[.slice At mt ct] 27)) := (Below.refl _ _).alloc (Nat.le_refl _) _
            have hT9 := HTK.out.keep (w' := wr.alloc (.cells #[.slice At mt ct] 27)) (S' := fun _ => True) (fun q hq _ => hb9.block q hq) (fun _ _ => trivial)
            have hI9 : TI (wr.alloc (.cells #[.slice At mt ct] 27)) (fun _ => True) t (.slice At mt ct) := HX2.out.keep (fun q hq _ => (hb9.block q (Nat.lt_of_lt_of_le hq HB3.out.size)).trans (HB3.out.block q hq)) (fun _ _ => trivial)
            obtain ⟨v', w9, hr9, hT2, hg9, hv9⟩ := hT9.app (by have := HM.out; omega) hI9 (blk_cell (heap_alloc_new wr _) 0) 30
            have hw9 : Below w.heap.size w w9 := by
              have h8 := HB3.out.trans (hb9.mono HB3.out.size)
              refine h8.grown hg9 h8.size (fun q hq => HKO2.out q hq)
            have HR : Hid (KoR w L (.int .i64 ((i : Int) + 1)) v' (.bool (c0 || K.any (clq t))) w9) := Lib.hid (HNX2.out _ _ (by rw [if_neg hin]; exact hT2.keep (fun _ _ _ => rfl) (fun _ _ => trivial)) (fun q hq => by
              rcases hv9 with e | e
              · exact HKO2.out q (e ▸ hq)
              · rw [e] at hq
                have := Option.some.inj hq
                have h7 := HB3.out.size
                simp at this
                omega) hw9)
            have HR9 := Lib.hid hr9
            clear hin HNX2 hT9 hI9 hr9 hT2 hg9 hv9 hw9 hb9
            go_wp2_with (at_builtin; refine wp_apd _ rfl 30 30 (.tmp 49) (.tmp 51) rfl rfl _ _ v' w9 rfl rfl HR9.out ?_)
            go_roundw
            case rel => exact HR.out
            case measure => simp [intOf]; omega
    · have hin : i = L.length := by have := HN.out; omega
      have hfull := HFIN.out i hin
      rw [hfull] at HKT ⊢
      obtain ⟨Ak, ck, rfl, _⟩ := HKT.out.val
      have HF := HB
      obtain ⟨m, hm⟩ : ∃ m, m = (rst L).1.length := ⟨_, rfl⟩
      obtain ⟨cc, hcc⟩ : ∃ cc, cc = (rst L).2 := ⟨_, rfl⟩
      have HMF := Lib.hid hm
      have HCF := Lib.hid hcc
      rw [← hm, ← hcc]
      clear hfull hin HKT HKO hm hcc
      go_wp2
      exact bodyPost_ret (v := .tuple #[.int .i64 (m : Int), .bool cc]) (by simp [results, Try.results14, go_sem]) rfl ⟨by rw [HMF.out, HCF.out], HF.out⟩
end Go.Proofs.Ytgblgnmblbmnjaa
