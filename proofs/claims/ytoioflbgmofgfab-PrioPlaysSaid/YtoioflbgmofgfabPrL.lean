/-
  PrioPlays' walk.
-/
import Derived.Test.YtoioflbgmofgfabPrK
import Derived.Test.YtoioflbgmofgfabPrO
namespace Go.Proofs.Ytoioflbgmofgfab
open Go.RowKit Go Go.WideShapes Go.ChangeShapes Go.Deep
set_option linter.unusedVariables false
set_option linter.unusedSimpArgs false
/-- the calls that came in -/
def OpsAt (w : World) (A : Option Addr) (n : Nat) : Prop :=
  0 < n → ∃ b o, A = some ⟨b, o, none⟩ ∧ b < w.heap.size ∧ ∀ i, i < n → ∃ (K : Int) (Ai : Option Addr) (ni ci : Nat) (li : List (Int × Int)), w.cell? ⟨b, o + i * 2, none⟩ = some (.int .i64 K) ∧ w.cell? ⟨b, o + i * 2 + 1, none⟩ = some (.slice Ai ni ci) ∧ TS w Ai ni ci li ∧ (Ai = none → ci = 0)
section
variable {H : Type} {enc : TypeId × Value → H} {w : World}
theorem ts_of_cell {v : Value} {fuel : Nat} {y : DataW H × List MemPlace} (h : DataW.trod enc Try.prog w 0 (fun _ => true) true fuel 47 [v] = some y) : ∃ A n c l, v = .slice A n c ∧ TS w A n c l ∧ (A = none → c = 0) := by
  have h0 := h
  rcases open_slice Try.underlying47 h with ⟨hcs, _⟩ | ⟨a, len, cap, m, k, D, Pl, hcs, _⟩
  · injection hcs with hcs
    subst hcs
    exact ⟨none, 0, 0, [], rfl, ⟨rfl, Nat.le_refl _, by omega, fun q => by omega⟩, fun _ => rfl⟩
  · injection hcs with hcs
    subst hcs
    obtain ⟨l, hl⟩ := ts_open (d := y.1) (p := y.2) (A := some a) (n := len) (c := cap) ⟨fuel, h0⟩
    exact ⟨some a, len, cap, l, rfl, hl, fun q => by cases q⟩
theorem ops_open {A : Option Addr} {n c : Nat} {d : DataW H} {p : List MemPlace} (h : DataW.Trod enc Try.prog w 0 (fun _ => true) true 41 (.slice A n c) d p) : OpsAt w A n ∧ n ≤ 9223372036854775807 ∧ n ≤ c := by
  obtain ⟨h1, h2, h3, _⟩ := fields_open Try.underlying41 Try.underlying49 (by kernel_rfl) (by kernel_rfl) (by decide) h
  refine ⟨fun hn => ?_, by unfold maxLen at h3; omega, h2⟩
  obtain ⟨b, o, hA, hb, hf⟩ := h1 hn
  refine ⟨b, o, hA, hb, fun i hi => ?_⟩
  obtain ⟨v0, _, y0, c0, t0⟩ := hf i hi 0 _ rfl
  obtain ⟨v1, _, y1, c1, t1⟩ := hf i hi 1 _ rfl
  obtain ⟨K, hK, _, _⟩ := DataW.trod_int Try.underlying3 t0
  injection hK with hK
  obtain ⟨Ai, ni, ci, li, rfl, ht, hni⟩ := ts_of_cell t1
  subst hK
  exact ⟨K, Ai, ni, ci, li, by simpa using c0, by rw [Nat.add_assoc]; simpa using c1, ht, hni⟩
end
theorem OpsAt.below {w w' : World} {A : Option Addr} {n : Nat} (h : OpsAt w A n) (hb : Below w.heap.size w w') : OpsAt w' A n := fun hn => by
  obtain ⟨b, o, h1, h2, h3⟩ := h hn
  refine ⟨b, o, h1, Nat.lt_of_lt_of_le h2 hb.size, fun i hi => ?_⟩
  obtain ⟨K, Ai, ni, ci, li, a1, a2, a3, a4⟩ := h3 i hi
  exact ⟨K, Ai, ni, ci, li, (hb.cell (p := ⟨b, o + i * 2, none⟩) h2).trans a1, (hb.cell (p := ⟨b, o + i * 2 + 1, none⟩) h2).trans a2, a3.below hb, a4⟩
theorem wp_append_ts {ops : Array Oper} {o : Oper} {a : Act} {K : Act → World → Prop} {Q : Exit → Act → World → Prop} (W : World) (s x : Operand) (ho : o.op = .call { callee := .builtin .append, args := #[s, x], argTypes := #[47, 47] })
    (B : Nat) (v : Value) (xs : List (Int × Int)) (hs : a.eval s = v) (hown : OwnT W B v xs) (A : Option Addr) (n c : Nat) (l : List (Int × Int)) (hx : a.eval x = .slice A n c) (ht : TS W A n c l) (hnil : A = none → c = 0) (hlen : xs.length + n ≤ 1000000000) (hB : B ≤ W.heap.size)
    (h : ∀ v' w', OwnT w' B v' (xs ++ l) → Turns (fun j => v.ownBlock = some j) W w' → K (a.put o.dst v') w') : o.wp Try.prog a W K Q := by
  obtain ⟨i0, hi0, hz0, hz1, hz2⟩ := info_parts zero_th
  have hl := ht.len
  rcases A with _ | ad
  · have h0 := hnil rfl
    have h1 := ht.cap
    have hn0 : n = 0 := by omega
    subst h0 hn0
    obtain rfl := List.length_eq_zero_iff.mp hl
    have hrun := run_append_owned_none (P := Try.prog) (w := W) B 47 o.type ThT i0 2 Try.underlying47 hi0 v xs.length (flatT xs) hown
    unfold Oper.wp
    simp [execOp, ho, resolve, invoke, builtin, hs, hx, hrun, Result.andThen]
    exact h v W (by rw [List.append_nil]; exact hown) ⟨rfl, rfl, rfl, Nat.le_refl _, fun _ _ _ => rfl⟩
  · refine wp_append_own W s x 47 ho B ThT i0 _ 2 16 Try.underlying47 hi0 hz0 hz1 hz2 rfl (by omega) v xs.length (flatT xs) hs hown ad n c (flatT l) hx (by rw [flatT_len, hl]) ?_ (flatT_one _) (by unfold maxLen; omega) (by omega) hB ?_
    · intro j u hj
      have hjl : j < n * 2 := by rw [← hl, ← flatT_len]; exact (List.getElem?_eq_some_iff.1 hj).1
      obtain ⟨b, o', e, _⟩ := ht.at_ (by omega)
      injection e with e
      subst e
      rw [Addr.add_mid, ht.cells hjl, hj]
    · intro v' w' h1 h2 _
      refine h v' w' ?_ (Turns.of_grown h2 (fun j e => e))
      unfold OwnT
      rw [flatT_app, List.length_append, hl]
      exact h1
def PaR (w0 : World) (g t : Nat) (v4 : Value) (es : List En) (A4 : Option Addr) (m c4 : Nat) (P : List (Int × Int)) (wv iv : Value) (W : World) : Prop :=
  ∃ (k : Nat) (ws : List En) (Aw : Option Addr) (cw : Nat), iv = .int .i64 (k : Int) ∧ wv = .slice Aw ws.length cw ∧ k + ws.length = m ∧ QI (restL k es) ws ∧ TS W Aw ws.length cw (ws.map En.pr) ∧ (Aw = none → cw = 0) ∧ TS W A4 m c4 P ∧ Below w0.heap.size w0 W ∧ Qu W g v4 [] t
structure PlC (w0 : World) (g i : Nat) (es ws : List En) (t : Nat) (v : Value) (Aw : Option Addr) (cw : Nat) (W : World) : Prop where
  qi : QI es ws
  tt : ∀ e ∈ ws, e.t < t
  qu : Qu W g v es t
  ts : TS W Aw ws.length cw (ws.map En.pr)
  nil_ : Aw = none → cw = 0
  apart : 0 < ws.length → ∀ ad, Aw = some ad → ad.block ≠ g ∧ v.ownBlock ≠ some ad.block
  lim : ws.length ≤ 6 * i ∧ t ≤ 6 * i
  below : Below w0.heap.size w0 W
  gb : w0.heap.size ≤ g
def PlR (w0 : World) (g n : Nat) (wv iv : Value) (W : World) : Prop :=
  ∃ (i : Nat) (es ws : List En) (t : Nat) (v : Value) (Aw : Option Addr) (cw : Nat), iv = .int .i64 (i : Int) ∧ wv = .slice Aw ws.length cw ∧ i ≤ 50 ∧ i ≤ n ∧ PlC w0 g i es ws t v Aw cw W
section
variable {w0 W W' : World} {g i t : Nat} {es ws : List En} {v : Value} {Aw : Option Addr} {cw : Nat}
theorem PlC.next (h : PlC w0 g i es ws t v Aw cw W) (hb : Below W.heap.size W W') : PlC w0 g i es ws t v Aw cw W' :=
  ⟨h.qi, h.tt, h.qu.next hb, h.ts.below hb, h.nil_, h.apart, h.lim, h.below.trans (hb.mono h.below.size), h.gb⟩
theorem PlC.step (h : PlC w0 g i es ws t v Aw cw W) : PlC w0 g (i + 1) es ws t v Aw cw W :=
  ⟨h.qi, h.tt, h.qu, h.ts, h.nil_, h.apart, by have := h.lim; omega, h.below, h.gb⟩
theorem PlC.len (h : PlC w0 g i es ws t v Aw cw W) : es.length = ws.length := h.qi.len
theorem OwnT.nil_ {W : World} {B c : Nat} {A : Option Addr} {n : Nat} {xs : List (Int × Int)} (h : OwnT W B (.slice A n c) xs) : A = none → c = 0 := by
  obtain ⟨_, ⟨hv, _⟩ | ⟨g, cap, cur, hv, _⟩⟩ := h
  · cases hv; exact fun _ => rfl
  · cases hv; exact fun q => by cases q
/-- a new list of the call's own in the place of the old one -/
theorem PlC.fresh {ws' es' : List En} {t' i' : Nat} {v' : Value} {B c' n' : Nat} {A' : Option Addr} (hqi : QI es' ws') (htt : ∀ e ∈ ws', e.t < t') (hqu : Qu W' g v' es' t') (ho : OwnT W' B (.slice A' n' c') (ws'.map En.pr)) (hB : ∀ j, (j = g ∨ v'.ownBlock = some j) → j < B) (hl : ws'.length ≤ 6 * i' ∧ t' ≤ 6 * i') (hb : Below w0.heap.size w0 W') (hg : w0.heap.size ≤ g) :
    n' = ws'.length ∧ PlC w0 g i' es' ws' t' v' A' c' W' := by
  obtain ⟨A, c, e, hts, hA⟩ := ho.ts
  injection e with e1 e2 e3
  subst e1 e3
  rw [List.length_map] at e2 hts
  refine ⟨e2, hqi, htt, hqu, hts, ho.nil_, fun _ ad had => ⟨fun q => ?_, fun q => ?_⟩, hl, hb, hg⟩
  · have h1 := hA ad had
    have h2 := hB g (.inl rfl)
    omega
  · have h1 := hA ad had
    have h2 := hB _ (.inr q)
    omega
end
set_option maxHeartbeats 40000000 in
set_option maxRecDepth 100000 in
theorem prioPlays_any (A : Option Addr) (n c : Nat) (w : World) (h : OpsAt w A n) (hn : n ≤ 9223372036854775807) (hc : n ≤ c) :
    Calls Try.prog 4 #[.slice A n c] w fun e w' => e = .returned (.bool true) ∧ Below w.heap.size w w' := by
  have HNW := Lib.hid (newq_any w)
  have HAW := Lib.hid (fun W => awake11_any W)
  have HOP := Lib.hid h
  clear h
  go_enter Try.func4, Try.ntmps4
  go_wp2_with fail
  refine HNW.out.mono ?_
  rintro e w1 ⟨rfl, hq1, hb1⟩
  have HST : Hid (PlR w w.heap.size n (.slice none 0 0) (.int .i64 0) w1) := Lib.hid ⟨0, [], [], 0, _, none, 0, rfl, rfl, by omega, by omega, ⟨QI.nil, (fun _ h => by cases h), hq1, ⟨rfl, Nat.le_refl _, by omega, (fun q => by simp at q)⟩, (fun _ => rfl), (fun q => by simp at q), (by simp), hb1, Nat.le_refl _⟩⟩
  clear hq1 hb1
  go_wp2_with fail
  go_loopw [4, 19] (fun wv iv W => PlR w w.heap.size n wv iv W) (fun _ iv _ => n - (intOf iv).toNat)
  case atStart => exact HST.out
  case round =>
    obtain ⟨i, es, ws, t, v, Aw, cw, rfl, rfl, hi50, hin, hC⟩ := hrel
    have HC := Lib.hid hC
    have hwc := hC.ts.cap
    have hwm := hC.ts.capm
    obtain ⟨nw, hnw⟩ : ∃ nw, ws.length = nw := ⟨_, rfl⟩
    have HWL := Lib.hid hnw
    rw [hnw] at hwc ⊢
    clear hC HST hnw
    by_cases hlt : i < n
    · obtain ⟨b, o, hA, hbw0, hops⟩ := HOP.out (by omega)
      obtain ⟨K, Al, nl, cl, ll, k0, k1, htl, hnl⟩ := hops i hlt
      have hlb : 0 < nl → ∀ ad, Al = some ad → ad.block < w.heap.size := fun h0 ad had => by
        obtain ⟨b', o', e', hbw', _⟩ := htl.at_ h0
        rw [e'] at had
        injection had with had
        subst had
        exact hbw'
      have k0 := (HC.out.below.cell (p := ⟨b, o + i * 2, none⟩) hbw0).trans k0
      have k1 := (HC.out.below.cell (p := ⟨b, o + i * 2 + 1, none⟩) hbw0).trans k1
      have htl := htl.below HC.out.below
      have hbw : b < wr.heap.size := Nat.lt_of_lt_of_le hbw0 HC.out.below.size
      subst hA
      by_cases h50 : i < 50
      · have h50i : (i : Int) < 50 := by omega
        have htlc := htl.cap
        have htlm := htl.capm
        by_cases hL : 6 < nl
        · obtain ⟨bl, ol, hAl, _⟩ := htl.at_ (by omega)
          subst hAl
          have HTLr := Lib.hid (htl.cut (k := 6) (by omega))
          have HLN : Hid ((some ⟨bl, ol, none⟩ : Option Addr) = none → cl = 0) := Lib.hid hnl
          have HLB : Hid (0 < 6 → ∀ ad, (some ⟨bl, ol, none⟩ : Option Addr) = some ad → ad.block < w.heap.size) := Lib.hid (fun _ => hlb (by omega))
          have hlc6 : 6 ≤ cl := by omega
          clear htl hnl hlb hops
          have HP0 := Lib.hid (heap_alloc_new wr (.cells #[.int .i64 K, .slice (some ⟨bl, ol, none⟩) 6 cl] 49))
          have HC0 := Lib.hid (HC.out.next ((Below.refl wr.heap.size wr).alloc (Nat.le_refl _) (.cells #[.int .i64 K, .slice (some ⟨bl, ol, none⟩) 6 cl] 49)))
          have HTL0 := Lib.hid (HTLr.out.below ((Below.refl wr.heap.size wr).alloc (Nat.le_refl _) (.cells #[.int .i64 K, .slice (some ⟨bl, ol, none⟩) 6 cl] 49)))
          have HLE := Lib.hid (least_any Aw nw cw (ws.map En.pr) _ (by have := HC0.out.ts; rwa [HWL.out] at this) (by have := HC0.out.lim; have := HWL.out; omega))
          rcases Nat.eq_zero_or_pos nw with hnw | hnw
          · subst hnw
            have e1 : leastF (ws.map En.pr) 0 = -1 := rfl
            rw [e1] at HLE
            clear e1
            go_wp2_with fail
            refine HLE.out.mono ?_
            rintro e w1 ⟨rfl, hb1⟩
            have hsz1 : wr.heap.size < w1.heap.size := by have := hb1.size; simp at this; omega
            have d0 : w1.heap[wr.heap.size]? = some (.cells #[.int .i64 K, .slice (some ⟨bl, ol, none⟩) 6 cl] 49) := (hb1.block _ (by simp)).trans HP0.out
            obtain ⟨W1, hW1⟩ : ∃ W1, W1 = w1.alloc (.cells #[.int .i64 0, .int .i64 0] ThT) := ⟨_, rfl⟩
            obtain ⟨p, hp⟩ : ∃ p, p = wr.heap.size := ⟨_, rfl⟩
            obtain ⟨p8, hp8e⟩ : ∃ p8, p8 = w1.heap.size := ⟨_, rfl⟩
            have hal8 := heap_alloc_new w1 (.cells #[.int .i64 0, .int .i64 0] ThT)
            have hbW : Below w1.heap.size w1 (w1.alloc (.cells #[.int .i64 0, .int .i64 0] ThT)) := (Below.refl _ _).alloc (Nat.le_refl _) _
            have d1 : (w1.alloc (.cells #[.int .i64 0, .int .i64 0] ThT)).heap[wr.heap.size]? = some (.cells #[.int .i64 K, .slice (some ⟨bl, ol, none⟩) 6 cl] 49) := (hbW.block _ hsz1).trans d0
            have HC1 := Lib.hid ((HC0.out.next hb1).next hbW)
            have HTL := Lib.hid ((HTL0.out.below hb1).below hbW)
            have hgw := HC.out.qu.dev.lt
            have hvw := HC.out.qu.own.lt
            have HPN : Hid (¬ (wr.heap.size = w.heap.size ∨ v.ownBlock = some wr.heap.size)) := Lib.hid (fun q => q.elim (fun e => by omega) (fun e => by have := (hvw _ e).2; omega))
            have HP8N : Hid (¬ (w1.heap.size = w.heap.size ∨ v.ownBlock = some w1.heap.size)) := Lib.hid (fun q => q.elim (fun e => by omega) (fun e => by have := (hvw _ e).2; omega))
            have HP8L : Hid (w1.heap.size < (w1.alloc (.cells #[.int .i64 0, .int .i64 0] ThT)).heap.size) := Lib.hid (by simp)
            have HPW : Hid (wr.heap.size < (w1.alloc (.cells #[.int .i64 0, .int .i64 0] ThT)).heap.size) := Lib.hid (by simp; omega)
            have HP8 := Lib.hid hal8
            have HP1 : Hid ((w1.alloc (.cells #[.int .i64 0, .int .i64 0] ThT)).cell? ⟨wr.heap.size, 1, none⟩ = some (.slice (some ⟨bl, ol, none⟩) 6 cl)) := Lib.hid (blk_cell d1 1)
            have c60 := blk_cell d0 0
            have c61 := blk_cell d0 1
            clear hal8 hbW d1 d0 hb1 hgw hvw
            rw [← hW1] at HC1 HTL HP8L HPW HP8 HP1
            rw [← hp8e] at HP8N HP8L HP8
            rw [← hp] at HPN HPW HP1
            have HW1 := Lib.hid hW1
            have HPX := Lib.hid hp
            have HP8X := Lib.hid hp8e
            clear hW1 hp8e hp
            by_cases hk0 : K = 0
            · subst hk0
              have HPU := Lib.hid (push_any w.heap.size t 6 cl (some ⟨bl, ol, none⟩) v es (ll.take 6) _ HC1.out.qu HTL.out (fun h0 ad had => ⟨fun e => by have := HLB.out h0 ad had; have := HC1.out.gb; omega, fun e => by have := HLB.out h0 ad had; have := (HC1.out.qu.own.lt _ e).1; have := HC1.out.gb; omega⟩) (by have := HC1.out.len; have := HC1.out.lim; omega) (by have := HC1.out.lim; omega))
              go_wp2_with fail
              rw [← HW1.out]
              (try rw [← HP8X.out])
              (try rw [← HPX.out])
              refine HPU.out.mono ?_
              rintro e w2 ⟨rfl, hq2⟩
              have HPA : Hid (Turns (fun j => j = w.heap.size ∨ v.ownBlock = some j) W1 w2) := Lib.hid hq2.turns
              obtain ⟨_, v2, hv2, hvo⟩ := hq2
              have HV2 := Lib.hid hv2
              have HBW2 : Hid (Below w.heap.size w w2) := Lib.hid (HC1.out.below.trans (HPA.out.below HC1.out.below.size (fun j q => q.elim (fun e => by have := HC1.out.gb; omega) (fun e => by have := (HC1.out.qu.own.lt j e).1; have := HC1.out.gb; omega))))
              have hTW := HC1.out.ts
              have HTW2 : Hid (TS w2 Aw 0 cw (ws.map En.pr)) := Lib.hid (by
                rcases Nat.eq_zero_or_pos 0 with h0 | h0
                · have h1 := HC1.out.ts
                  rw [HWL.out, h0] at h1
                  rw [h0]
                  exact ⟨h1.len, h1.cap, h1.capm, fun q => by omega⟩
                · have h1 := HC1.out.ts.turns HPA.out (fun ad had q => by
                    have h2 := HC1.out.apart (by rw [HWL.out]; exact h0) ad had
                    exact q.elim h2.1 h2.2)
                  rwa [HWL.out] at h1)
              have HTL2 : Hid (TS w2 (some ⟨bl, ol, none⟩) 6 cl (ll.take 6)) := Lib.hid (by
                rcases Nat.eq_zero_or_pos 6 with h0 | h0
                · have h1 := HTL.out
                  rw [h0] at h1 ⊢
                  exact ⟨h1.len, h1.cap, h1.capm, fun q => by omega⟩
                · exact HTL.out.turns HPA.out (fun ad had q => by
                    have h1 := HLB.out h0 ad had
                    have h2 := HC1.out.gb
                    exact q.elim (fun e => by omega) (fun e => by have := (HC1.out.qu.own.lt _ e).1; omega)))
              have c1 : w2.cell? ⟨p, 1, none⟩ = some (.slice (some ⟨bl, ol, none⟩) 6 cl) := (World.cell?_of_block (a := ⟨p, 1, none⟩) (HPA.out.block p HPW.out (fun q => HPN.out q))).trans HP1.out
              have HC2 := Lib.hid c1
              have HS2 : Hid (p < w2.heap.size) := Lib.hid (Nat.lt_of_lt_of_le HPW.out HPA.out.size)
              have HBA : Hid (Below w2.heap.size w2 (w2.alloc (.cells #[] ThT)).drew) := Lib.hid (((Below.refl _ _).alloc (Nat.le_refl _) _).drew)
              have HO0 : Hid (OwnT (w2.alloc (.cells #[] ThT)).drew w2.heap.size (.slice (some ⟨w2.heap.size, 0, none⟩) 0 0) []) := Lib.hid ⟨rfl, .inr ⟨w2.heap.size, 0, #[], rfl, Nat.le_refl _, heap_alloc_new w2 _, Nat.le_refl _, by unfold maxLen; omega, rfl, rfl⟩⟩
              have HQT := Lib.hid hvo
              clear hv2 hvo hTW
              go_wp2_with fail
              refine wp_region_F (S := fun W => W.cell? ⟨p, 1, none⟩ = some (.slice (some ⟨bl, ol, none⟩) 6 cl)) [] (by kernel_rfl) c1 (fun hHeld => ?_)
              refine wpAnyG_take (i := 1) (oi := _) (v := ?_) rfl (by kernel_rfl) (by kernel_rfl) (by kernel_rfl) (by kernel_rfl) (by kernel_rfl) (fun _ _ _ h => h) (Or.inl ⟨by rfl, ?_⟩) (by assumption) ?_
              rotate_left 1
              · intro w hSw
                (try dsimp only at hSw)
                (first | (go_simp; done) | (go_simp; with_reducible rfl))
              (try simp only [Act.put, List.getElem_toArray, List.getElem_cons_succ, List.getElem_cons_zero, List.setIfInBounds_toArray, List.set_cons_zero, List.set_cons_succ])
              refine wpAnyG_take (i := 3) (oi := _) (v := ?_) rfl (by kernel_rfl) (by kernel_rfl) (by kernel_rfl) (by kernel_rfl) (by kernel_rfl) (fun _ _ _ h => h) (Or.inl ⟨by rfl, ?_⟩) (by assumption) ?_
              rotate_left 1
              · intro w hSw
                (try dsimp only at hSw)
                (first | (go_simp; done) | (go_simp; with_reducible rfl))
              (try simp only [Act.put, List.getElem_toArray, List.getElem_cons_succ, List.getElem_cons_zero, List.setIfInBounds_toArray, List.set_cons_zero, List.set_cons_succ])
              refine wpAnyG_take (i := 4) (oi := _) (v := ?_) rfl (by kernel_rfl) (by kernel_rfl) (by kernel_rfl) (by kernel_rfl) (by kernel_rfl) (fun _ _ _ h => h) (Or.inl ⟨by rfl, ?_⟩) (by assumption) ?_
              rotate_left 1
              · intro w hSw
                (try dsimp only at hSw)
                (first | (go_simp; done) | (go_simp; with_reducible rfl))
              (try simp only [Act.put, List.getElem_toArray, List.getElem_cons_succ, List.getElem_cons_zero, List.setIfInBounds_toArray, List.set_cons_zero, List.set_cons_succ])
              refine wpAnyF_ready (rs := [0]) (by kernel_rfl) (by simp) ?_
              refine AllReadyF.cons (o := _) rfl (fun K hK => ?_) AllReadyF.nil
              go_simp
              refine hK.out _ _ (cell_next (W := w2) HC2.out HBA.out) (fun hHeld0 => ?_)
              clear hK K
              (try simp only [Act.put, List.getElem_toArray, List.getElem_cons_succ, List.getElem_cons_zero, List.setIfInBounds_toArray, List.set_cons_zero, List.set_cons_succ])
              refine wpAnyF_ready (rs := [2]) (by kernel_rfl) (by simp) ?_
              refine AllReadyF.cons (o := _) rfl (fun K hK => ?_) AllReadyF.nil
              rw [if_pos (by rfl)]
              refine wp_append_ts (ops := #[]) _ (.tmp 51) (.tmp 52) rfl w2.heap.size (.slice (some ⟨w2.heap.size, 0, none⟩) 0 0) [] rfl HO0.out Aw 0 cw (ws.map En.pr) rfl (HTW2.out.below HBA.out) HC1.out.nil_ (by have := HC1.out.lim; have := HWL.out; first | (simp; omega) | simp) HBA.out.size ?_
              intro va vaw hva1 hva2
              have HA1 := Lib.hid hva1
              have HA2 : Hid (Below w2.heap.size w2 vaw) := Lib.hid (HBA.out.trans (hva2.below HBA.out.size (fun j q => by injection q with q; exact Nat.le_of_eq q)))
              have HLA := Lib.hid hva1.lt
              clear hva1 hva2
              refine hK.out _ _ (cell_next (W := w2) HC2.out HA2.out) (fun hHeld2 => ?_)
              clear hK K
              (try simp only [Act.put, List.getElem_toArray, List.getElem_cons_succ, List.getElem_cons_zero, List.setIfInBounds_toArray, List.set_cons_zero, List.set_cons_succ])
              refine wpAnyF_ready (rs := [5]) (by kernel_rfl) (by simp) ?_
              refine AllReadyF.cons (o := _) rfl (fun K hK => ?_) AllReadyF.nil
              rw [if_pos (by rfl)]
              refine wp_append_ts (ops := #[]) _ (.tmp 53) (.tmp 55) rfl w2.heap.size va ([] ++ ws.map En.pr) rfl HA1.out (some ⟨bl, ol, none⟩) 6 cl (ll.take 6) rfl (HTL2.out.below HA2.out) HLN.out (by have := HC1.out.lim; have := HWL.out; first | (simp; omega) | simp) HA2.out.size ?_
              intro vb vbw hvb1 hvb2
              have HB1 := Lib.hid hvb1
              have HB2 : Hid (Below w2.heap.size w2 vbw) := Lib.hid (HA2.out.trans (hvb2.below HA2.out.size (fun j q => (HLA.out j q).1)))
              clear hvb1 hvb2
              refine hK.out _ _ (cell_next (W := w2) HC2.out HB2.out) (fun hHeld5 => ?_)
              clear hK K
              (try simp only [Act.put, List.getElem_toArray, List.getElem_cons_succ, List.getElem_cons_zero, List.setIfInBounds_toArray, List.set_cons_zero, List.set_cons_succ])
              refine wpAnyF_ready (rs := [6]) (by kernel_rfl) (by simp) ?_
              refine AllReadyF.cons (o := _) rfl (fun K hK => ?_) AllReadyF.nil
              go_simp
              refine hK.out _ _ hHeld5 (fun hHeld6 => ?_)
              clear hK K
              (try simp only [Act.put, List.getElem_toArray, List.getElem_cons_succ, List.getElem_cons_zero, List.setIfInBounds_toArray, List.set_cons_zero, List.set_cons_succ])
              refine wpAnyF_done (by kernel_rfl) ?_ _
              obtain ⟨A9, c9, e9, hts9, hA9⟩ := HB1.out.ts
              have HCN : Hid (([] ++ ws.map En.pr ++ (ll.take 6)).length = (ws ++ ents t (ll.take 6)).length ∧ PlC w w.heap.size (i + 1) (pushN es t (ll.take 6)) (ws ++ ents t (ll.take 6)) (t + 6) v2 A9 c9 vbw) := Lib.hid (by
                obtain ⟨q1, q2⟩ := HC1.out.qi.push t HC1.out.tt (ll.take 6)
                have hlL := HTL.out.len
                have he : [] ++ ws.map En.pr ++ (ll.take 6) = (ws ++ ents t (ll.take 6)).map En.pr := by rw [List.map_append, ents_pr]; rfl
                have hel : (ents t (ll.take 6)).length = (ll.take 6).length := by have := congrArg List.length (ents_pr (ll.take 6) t); simpa using this
                have ho := HB1.out
                rw [he, e9] at ho
                have q3 : ∀ e ∈ ws ++ ents t (ll.take 6), e.t < t + 6 := fun e he => by have := q2 e he; rw [hlL] at this; exact this
                refine PlC.fresh q1 q3 (HV2.out.next HB2.out) ho (fun j q => ?_) (by have := HC1.out.lim; rw [List.length_append, hel, hlL]; omega) (HBW2.out.trans (HB2.out.mono HBW2.out.size)) HC1.out.gb
                rcases q with q | q
                · rw [q]; exact HV2.out.dev.lt
                · exact (HV2.out.own.lt j q).2)
              subst e9
              rw [HCN.out.1]
              have HCN := Lib.hid HCN.out.2
              have HLQ := Lib.hid (qlen_any w.heap.size (t + 6) v2 _ vbw HCN.out.qu)
              rw [HCN.out.len] at HLQ
              obtain ⟨nn, hnn⟩ : ∃ nn, (ws ++ ents t (ll.take 6)).length = nn := ⟨_, rfl⟩
              have HNN := Lib.hid hnn
              rw [hnn] at HLQ ⊢
              clear hHeld hHeld0 hHeld2 hHeld5 hHeld6 c1 hnn hts9 hA9
              go_wp2_with fail
              refine HLQ.out.mono ?_
              rintro e w9 ⟨rfl, rfl⟩
              go_wp2
              go_roundw
              case rel => exact ⟨i + 1, _, _, _, v2, A9, c9, by go_num, by rw [HNN.out], by omega, by omega, HCN.out⟩
              case measure => simp [intOf]; omega
            · have hd0 : (K == 0) = false := by rw [beq_eq_false_iff_ne]; exact hk0
              by_cases hk1 : K = 1
              · subst hk1
                have HPU := Lib.hid (push_any w.heap.size t 6 cl (some ⟨bl, ol, none⟩) v es (ll.take 6) _ HC1.out.qu HTL.out (fun h0 ad had => ⟨fun e => by have := HLB.out h0 ad had; have := HC1.out.gb; omega, fun e => by have := HLB.out h0 ad had; have := (HC1.out.qu.own.lt _ e).1; have := HC1.out.gb; omega⟩) (by have := HC1.out.len; have := HC1.out.lim; omega) (by have := HC1.out.lim; omega))
                go_wp2_with fail
                rw [← HW1.out]
                (try rw [← HP8X.out])
                (try rw [← HPX.out])
                refine HPU.out.mono ?_
                rintro e w2 ⟨rfl, hq2⟩
                have HPA : Hid (Turns (fun j => j = w.heap.size ∨ v.ownBlock = some j) W1 w2) := Lib.hid hq2.turns
                obtain ⟨_, v2, hv2, hvo⟩ := hq2
                have HV2 := Lib.hid hv2
                have HBW2 : Hid (Below w.heap.size w w2) := Lib.hid (HC1.out.below.trans (HPA.out.below HC1.out.below.size (fun j q => q.elim (fun e => by have := HC1.out.gb; omega) (fun e => by have := (HC1.out.qu.own.lt j e).1; have := HC1.out.gb; omega))))
                have hTW := HC1.out.ts
                have HTW2 : Hid (TS w2 Aw 0 cw (ws.map En.pr)) := Lib.hid (by
                  rcases Nat.eq_zero_or_pos 0 with h0 | h0
                  · have h1 := HC1.out.ts
                    rw [HWL.out, h0] at h1
                    rw [h0]
                    exact ⟨h1.len, h1.cap, h1.capm, fun q => by omega⟩
                  · have h1 := HC1.out.ts.turns HPA.out (fun ad had q => by
                      have h2 := HC1.out.apart (by rw [HWL.out]; exact h0) ad had
                      exact q.elim h2.1 h2.2)
                    rwa [HWL.out] at h1)
                have HTL2 : Hid (TS w2 (some ⟨bl, ol, none⟩) 6 cl (ll.take 6)) := Lib.hid (by
                  rcases Nat.eq_zero_or_pos 6 with h0 | h0
                  · have h1 := HTL.out
                    rw [h0] at h1 ⊢
                    exact ⟨h1.len, h1.cap, h1.capm, fun q => by omega⟩
                  · exact HTL.out.turns HPA.out (fun ad had q => by
                      have h1 := HLB.out h0 ad had
                      have h2 := HC1.out.gb
                      exact q.elim (fun e => by omega) (fun e => by have := (HC1.out.qu.own.lt _ e).1; omega)))
                have c1 : w2.cell? ⟨p, 1, none⟩ = some (.slice (some ⟨bl, ol, none⟩) 6 cl) := (World.cell?_of_block (a := ⟨p, 1, none⟩) (HPA.out.block p HPW.out (fun q => HPN.out q))).trans HP1.out
                have HC2 := Lib.hid c1
                have HS2 : Hid (p < w2.heap.size) := Lib.hid (Nat.lt_of_lt_of_le HPW.out HPA.out.size)
                have HBA : Hid (Below w2.heap.size w2 (w2.alloc (.cells #[] ThT)).drew) := Lib.hid (((Below.refl _ _).alloc (Nat.le_refl _) _).drew)
                have HO0 : Hid (OwnT (w2.alloc (.cells #[] ThT)).drew w2.heap.size (.slice (some ⟨w2.heap.size, 0, none⟩) 0 0) []) := Lib.hid ⟨rfl, .inr ⟨w2.heap.size, 0, #[], rfl, Nat.le_refl _, heap_alloc_new w2 _, Nat.le_refl _, by unfold maxLen; omega, rfl, rfl⟩⟩
                have HQT := Lib.hid hvo
                clear hv2 hvo hTW
                go_wp2_with fail
                refine wp_region_F (S := fun W => W.cell? ⟨p, 1, none⟩ = some (.slice (some ⟨bl, ol, none⟩) 6 cl)) [] (by kernel_rfl) c1 (fun hHeld => ?_)
                refine wpAnyG_take (i := 1) (oi := _) (v := ?_) rfl (by kernel_rfl) (by kernel_rfl) (by kernel_rfl) (by kernel_rfl) (by kernel_rfl) (fun _ _ _ h => h) (Or.inl ⟨by rfl, ?_⟩) (by assumption) ?_
                rotate_left 1
                · intro w hSw
                  (try dsimp only at hSw)
                  (first | (go_simp; done) | (go_simp; with_reducible rfl))
                (try simp only [Act.put, List.getElem_toArray, List.getElem_cons_succ, List.getElem_cons_zero, List.setIfInBounds_toArray, List.set_cons_zero, List.set_cons_succ])
                refine wpAnyG_take (i := 3) (oi := _) (v := ?_) rfl (by kernel_rfl) (by kernel_rfl) (by kernel_rfl) (by kernel_rfl) (by kernel_rfl) (fun _ _ _ h => h) (Or.inl ⟨by rfl, ?_⟩) (by assumption) ?_
                rotate_left 1
                · intro w hSw
                  (try dsimp only at hSw)
                  (first | (go_simp; done) | (go_simp; with_reducible rfl))
                (try simp only [Act.put, List.getElem_toArray, List.getElem_cons_succ, List.getElem_cons_zero, List.setIfInBounds_toArray, List.set_cons_zero, List.set_cons_succ])
                refine wpAnyG_take (i := 4) (oi := _) (v := ?_) rfl (by kernel_rfl) (by kernel_rfl) (by kernel_rfl) (by kernel_rfl) (by kernel_rfl) (fun _ _ _ h => h) (Or.inl ⟨by rfl, ?_⟩) (by assumption) ?_
                rotate_left 1
                · intro w hSw
                  (try dsimp only at hSw)
                  (first | (go_simp; done) | (go_simp; with_reducible rfl))
                (try simp only [Act.put, List.getElem_toArray, List.getElem_cons_succ, List.getElem_cons_zero, List.setIfInBounds_toArray, List.set_cons_zero, List.set_cons_succ])
                refine wpAnyF_ready (rs := [0]) (by kernel_rfl) (by simp) ?_
                refine AllReadyF.cons (o := _) rfl (fun K hK => ?_) AllReadyF.nil
                go_simp
                refine hK.out _ _ (cell_next (W := w2) HC2.out HBA.out) (fun hHeld0 => ?_)
                clear hK K
                (try simp only [Act.put, List.getElem_toArray, List.getElem_cons_succ, List.getElem_cons_zero, List.setIfInBounds_toArray, List.set_cons_zero, List.set_cons_succ])
                refine wpAnyF_ready (rs := [2]) (by kernel_rfl) (by simp) ?_
                refine AllReadyF.cons (o := _) rfl (fun K hK => ?_) AllReadyF.nil
                rw [if_pos (by rfl)]
                refine wp_append_ts (ops := #[]) _ (.tmp 51) (.tmp 52) rfl w2.heap.size (.slice (some ⟨w2.heap.size, 0, none⟩) 0 0) [] rfl HO0.out Aw 0 cw (ws.map En.pr) rfl (HTW2.out.below HBA.out) HC1.out.nil_ (by have := HC1.out.lim; have := HWL.out; first | (simp; omega) | simp) HBA.out.size ?_
                intro va vaw hva1 hva2
                have HA1 := Lib.hid hva1
                have HA2 : Hid (Below w2.heap.size w2 vaw) := Lib.hid (HBA.out.trans (hva2.below HBA.out.size (fun j q => by injection q with q; exact Nat.le_of_eq q)))
                have HLA := Lib.hid hva1.lt
                clear hva1 hva2
                refine hK.out _ _ (cell_next (W := w2) HC2.out HA2.out) (fun hHeld2 => ?_)
                clear hK K
                (try simp only [Act.put, List.getElem_toArray, List.getElem_cons_succ, List.getElem_cons_zero, List.setIfInBounds_toArray, List.set_cons_zero, List.set_cons_succ])
                refine wpAnyF_ready (rs := [5]) (by kernel_rfl) (by simp) ?_
                refine AllReadyF.cons (o := _) rfl (fun K hK => ?_) AllReadyF.nil
                rw [if_pos (by rfl)]
                refine wp_append_ts (ops := #[]) _ (.tmp 53) (.tmp 55) rfl w2.heap.size va ([] ++ ws.map En.pr) rfl HA1.out (some ⟨bl, ol, none⟩) 6 cl (ll.take 6) rfl (HTL2.out.below HA2.out) HLN.out (by have := HC1.out.lim; have := HWL.out; first | (simp; omega) | simp) HA2.out.size ?_
                intro vb vbw hvb1 hvb2
                have HB1 := Lib.hid hvb1
                have HB2 : Hid (Below w2.heap.size w2 vbw) := Lib.hid (HA2.out.trans (hvb2.below HA2.out.size (fun j q => (HLA.out j q).1)))
                clear hvb1 hvb2
                refine hK.out _ _ (cell_next (W := w2) HC2.out HB2.out) (fun hHeld5 => ?_)
                clear hK K
                (try simp only [Act.put, List.getElem_toArray, List.getElem_cons_succ, List.getElem_cons_zero, List.setIfInBounds_toArray, List.set_cons_zero, List.set_cons_succ])
                refine wpAnyF_ready (rs := [6]) (by kernel_rfl) (by simp) ?_
                refine AllReadyF.cons (o := _) rfl (fun K hK => ?_) AllReadyF.nil
                go_simp
                refine hK.out _ _ hHeld5 (fun hHeld6 => ?_)
                clear hK K
                (try simp only [Act.put, List.getElem_toArray, List.getElem_cons_succ, List.getElem_cons_zero, List.setIfInBounds_toArray, List.set_cons_zero, List.set_cons_succ])
                refine wpAnyF_done (by kernel_rfl) ?_ _
                obtain ⟨A9, c9, e9, hts9, hA9⟩ := HB1.out.ts
                have HCN : Hid (([] ++ ws.map En.pr ++ (ll.take 6)).length = (ws ++ ents t (ll.take 6)).length ∧ PlC w w.heap.size (i + 1) (pushN es t (ll.take 6)) (ws ++ ents t (ll.take 6)) (t + 6) v2 A9 c9 vbw) := Lib.hid (by
                  obtain ⟨q1, q2⟩ := HC1.out.qi.push t HC1.out.tt (ll.take 6)
                  have hlL := HTL.out.len
                  have he : [] ++ ws.map En.pr ++ (ll.take 6) = (ws ++ ents t (ll.take 6)).map En.pr := by rw [List.map_append, ents_pr]; rfl
                  have hel : (ents t (ll.take 6)).length = (ll.take 6).length := by have := congrArg List.length (ents_pr (ll.take 6) t); simpa using this
                  have ho := HB1.out
                  rw [he, e9] at ho
                  have q3 : ∀ e ∈ ws ++ ents t (ll.take 6), e.t < t + 6 := fun e he => by have := q2 e he; rw [hlL] at this; exact this
                  refine PlC.fresh q1 q3 (HV2.out.next HB2.out) ho (fun j q => ?_) (by have := HC1.out.lim; rw [List.length_append, hel, hlL]; omega) (HBW2.out.trans (HB2.out.mono HBW2.out.size)) HC1.out.gb
                  rcases q with q | q
                  · rw [q]; exact HV2.out.dev.lt
                  · exact (HV2.out.own.lt j q).2)
                subst e9
                rw [HCN.out.1]
                have HCN := Lib.hid HCN.out.2
                have HLQ := Lib.hid (qlen_any w.heap.size (t + 6) v2 _ vbw HCN.out.qu)
                rw [HCN.out.len] at HLQ
                obtain ⟨nn, hnn⟩ : ∃ nn, (ws ++ ents t (ll.take 6)).length = nn := ⟨_, rfl⟩
                have HNN := Lib.hid hnn
                rw [hnn] at HLQ ⊢
                clear hHeld hHeld0 hHeld2 hHeld5 hHeld6 c1 hnn hts9 hA9
                go_wp2_with fail
                refine HLQ.out.mono ?_
                rintro e w9 ⟨rfl, rfl⟩
                go_wp2
                go_roundw
                case rel => exact ⟨i + 1, _, _, _, v2, A9, c9, by go_num, by rw [HNN.out], by omega, by omega, HCN.out⟩
                case measure => simp [intOf]; omega
              · have hd1 : (K == 1) = false := by rw [beq_eq_false_iff_ne]; exact hk1
                by_cases hk2 : K = 2
                · subst hk2
                  have hes : es = [] := List.length_eq_zero_iff.mp (by rw [HC1.out.len, HWL.out])
                  have HPO := Lib.hid (pop_none w.heap.size t v W1 (hes ▸ HC1.out.qu))
                  have hneq := neq_th 0 0
                  go_wp2_with fail
                  rw [← HW1.out]
                  (try rw [← HP8X.out])
                  (try rw [← HPX.out])
                  refine HPO.out.mono ?_
                  rintro e w3 ⟨rfl, hb3⟩
                  have HCN : Hid (PlC w w.heap.size (i + 1) es ws t v Aw cw (w3.alloc (.cells #[.int .i64 0, .int .i64 0] ThT))) := Lib.hid (((HC1.out.next hb3).next ((Below.refl _ _).alloc (Nat.le_refl _) _)).step)
                  have HLQ := Lib.hid (qlen_any w.heap.size t v es _ HCN.out.qu)
                  rw [HCN.out.len, HWL.out] at HLQ
                  have d8 : w3.heap[p8]? = some (.cells #[.int .i64 0, .int .i64 0] ThT) := (hb3.block _ HP8L.out).trans HP8.out
                  have c80 := blk_cell d8 0
                  have c81 := blk_cell d8 1
                  have hp8 : p8 < w3.heap.size := blk_lt d8
                  clear hb3 hes d8
                  go_wp2_with fail
                  refine HLQ.out.mono ?_
                  rintro e w9 ⟨rfl, rfl⟩
                  go_wp2
                  go_roundw
                  case rel => exact ⟨i + 1, es, ws, t, v, Aw, cw, by go_num, by rw [HWL.out], by omega, by omega, HCN.out⟩
                  case measure => simp [intOf]; omega
                · have hd2 : (K == 2) = false := by rw [beq_eq_false_iff_ne]; exact hk2
                  by_cases hk3 : K = 3
                  · subst hk3
                    have hes : es = [] := List.length_eq_zero_iff.mp (by rw [HC1.out.len, HWL.out])
                    have HPO := Lib.hid (peek_none w.heap.size t v W1 (hes ▸ HC1.out.qu))
                    have hneq := neq_th 0 0
                    go_wp2_with fail
                    rw [← HW1.out]
                    (try rw [← HP8X.out])
                    (try rw [← HPX.out])
                    refine HPO.out.mono ?_
                    rintro e w3 ⟨rfl, hb3⟩
                    have HCN : Hid (PlC w w.heap.size (i + 1) es ws t v Aw cw (w3.alloc (.cells #[.int .i64 0, .int .i64 0] ThT))) := Lib.hid (((HC1.out.next hb3).next ((Below.refl _ _).alloc (Nat.le_refl _) _)).step)
                    have HLQ := Lib.hid (qlen_any w.heap.size t v es _ HCN.out.qu)
                    rw [HCN.out.len, HWL.out] at HLQ
                    have d8 : w3.heap[p8]? = some (.cells #[.int .i64 0, .int .i64 0] ThT) := (hb3.block _ HP8L.out).trans HP8.out
                    have c80 := blk_cell d8 0
                    have c81 := blk_cell d8 1
                    have hp8 : p8 < w3.heap.size := blk_lt d8
                    clear hb3 hes d8
                    go_wp2_with fail
                    refine HLQ.out.mono ?_
                    rintro e w9 ⟨rfl, rfl⟩
                    go_wp2
                    go_roundw
                    case rel => exact ⟨i + 1, es, ws, t, v, Aw, cw, by go_num, by rw [HWL.out], by omega, by omega, HCN.out⟩
                    case measure => simp [intOf]; omega
                  · have hd3 : (K == 3) = false := by rw [beq_eq_false_iff_ne]; exact hk3
                    by_cases hk4 : K = 4
                    · subst hk4
                      have HAL := Lib.hid (all_any w.heap.size t v es W1 HC1.out.qu (by have := HC1.out.lim; have := HC1.out.len; omega))
                      go_wp2_with fail
                      rw [← HW1.out]
                      (try rw [← HP8X.out])
                      (try rw [← HPX.out])
                      refine HAL.out.mono ?_
                      rintro e w4 ⟨A4, c4, rfl, hts4, hA4, hq4⟩
                      have HPA : Hid (Turns (fun j => j = w.heap.size ∨ v.ownBlock = some j) W1 w4) := Lib.hid hq4.turns
                      obtain ⟨v4, hv4⟩ := hq4.qu_
                      have HESL : Hid (es.length = 0) := Lib.hid (by rw [HC1.out.len, HWL.out])
                      have HBW4 : Hid (Below w.heap.size w w4) := Lib.hid (HC1.out.below.trans (HPA.out.below HC1.out.below.size (fun j q => q.elim (fun e => by have := HC1.out.gb; omega) (fun e => by have := (HC1.out.qu.own.lt j e).1; have := HC1.out.gb; omega))))
                      obtain ⟨P, hP⟩ : ∃ P, popsL es.length es = P := ⟨_, rfl⟩
                      have HPE := Lib.hid hP
                      rw [hP] at hts4
                      rw [HESL.out] at hts4 ⊢
                      have hc4 := hts4.cap
                      have hc5 := hts4.capm
                      have HST2 : Hid (PaR w w.heap.size t v4 es A4 0 c4 P (.slice Aw 0 cw) (.int .i64 0) w4) := Lib.hid (by
                        refine ⟨0, ws, Aw, cw, rfl, by rw [HWL.out], by rw [HWL.out, Nat.zero_add], HC1.out.qi, ?_, HC1.out.nil_, hts4, HBW4.out, hv4⟩
                        rcases Nat.eq_zero_or_pos ws.length with h0 | h0
                        · have h1 := HC1.out.ts
                          exact ⟨h1.len, h1.cap, h1.capm, fun q => by omega⟩
                        · exact HC1.out.ts.turns HPA.out (fun ad had q => by
                            have h2 := HC1.out.apart h0 ad had
                            exact q.elim h2.1 h2.2))
                      have hnwm : 0 ≤ 1000000000 := by have := HC1.out.lim; have := HWL.out; omega
                      clear hts4 hA4 hq4 hv4 hP
                      go_wp2_with fail
                      go_loopw [4, 98] (fun wv iv W => PaR w w.heap.size t v4 es A4 0 c4 P wv iv W) (fun _ iv _ => 0 - (intOf iv).toNat)
                      case atStart => exact HST2.out
                      case round =>
                        obtain ⟨k, ws2, A2, c2, rfl, rfl, hkm, hqi, htw, hn2, ht4, hb, hv⟩ := hrel
                        have HQ := Lib.hid hqi
                        have HTW := Lib.hid htw
                        have HT4 := Lib.hid ht4
                        have HB := Lib.hid hb
                        have HV := Lib.hid hv
                        have HN2 := Lib.hid hn2
                        have hwc := htw.cap
                        have hwm := htw.capm
                        obtain ⟨n2, hnw2⟩ : ∃ n2, ws2.length = n2 := ⟨_, rfl⟩
                        have HNWL := Lib.hid hnw2
                        rw [hnw2] at HTW hkm hwc ⊢
                        clear hqi htw ht4 hb hnw2 hv hn2 HST2
                        have hk00 : k = 0 := by omega
                        subst hk00
                        · have hn20 : n2 = 0 := by omega
                          subst hn20
                          have HCN : Hid (PlC w w.heap.size (i + 1) [] [] t v4 A2 c2 wr) := Lib.hid (by
                            have h1 := HTW.out
                            exact ⟨QI.nil, (fun _ h => by cases h), HV.out, ⟨rfl, h1.cap, h1.capm, (fun q => by simp at q)⟩, HN2.out, (fun q => by simp at q), (by have := HC1.out.lim; simp; omega), HB.out, HC1.out.gb⟩)
                          have HLQ := Lib.hid (qlen_any w.heap.size t v4 [] _ HCN.out.qu)
                          go_wp2_with fail
                          refine HLQ.out.mono ?_
                          rintro e w9 ⟨rfl, rfl⟩
                          go_wp2
                          go_roundw
                          case rel => exact ⟨i + 1, [], [], t, v4, A2, c2, by go_num, rfl, by omega, by omega, HCN.out⟩
                          case measure => simp [intOf]; omega
                    · have hd4 : (K == 4) = false := by rw [beq_eq_false_iff_ne]; exact hk4
                      have HCN : Hid (PlC w w.heap.size (i + 1) es ws t v Aw cw W1) := Lib.hid (HC1.out.step)
                      have HLQ := Lib.hid (qlen_any w.heap.size t v es _ HCN.out.qu)
                      rw [HCN.out.len, HWL.out] at HLQ
                      go_wp2_with fail
                      rw [← HW1.out]
                      (try rw [← HP8X.out])
                      (try rw [← HPX.out])
                      refine HLQ.out.mono ?_
                      rintro e w9 ⟨rfl, rfl⟩
                      go_wp2
                      go_roundw
                      case rel => exact ⟨i + 1, es, ws, t, v, Aw, cw, by go_num, by rw [HWL.out], by omega, by omega, HCN.out⟩
                      case measure => simp [intOf]; omega
          · obtain ⟨a, ha, hfl⟩ := leastF_fl (ws.map En.pr) (by rw [List.length_map, HWL.out]; exact hnw)
            rw [List.length_map, HWL.out] at ha
            rw [ha] at HLE
            have hla := LeastAt.of_fl HC.out.qi.sorted hfl
            have haw : a < nw := by have := hla.1; rwa [HWL.out] at this
            obtain ⟨x, hx⟩ : ∃ x, ea ws a = x := ⟨_, rfl⟩
            have hwa : (ws.map En.pr).getD a (0, 0) = x.pr := by rw [getD_pr ws a hla.1, hx]
            have HLA := Lib.hid hla
            have HEA := Lib.hid hx
            have HWA := Lib.hid hwa
            clear ha hfl hla hx hwa
            go_wp2_with fail
            refine HLE.out.mono ?_
            rintro e w1 ⟨rfl, hb1⟩
            have hsz1 : wr.heap.size < w1.heap.size := by have := hb1.size; simp at this; omega
            have d0 : w1.heap[wr.heap.size]? = some (.cells #[.int .i64 K, .slice (some ⟨bl, ol, none⟩) 6 cl] 49) := (hb1.block _ (by simp)).trans HP0.out
            obtain ⟨W1, hW1⟩ : ∃ W1, W1 = w1.alloc (.cells #[.int .i64 x.n, .int .i64 x.m] ThT) := ⟨_, rfl⟩
            obtain ⟨p, hp⟩ : ∃ p, p = wr.heap.size := ⟨_, rfl⟩
            obtain ⟨p8, hp8e⟩ : ∃ p8, p8 = w1.heap.size := ⟨_, rfl⟩
            have hal8 := heap_alloc_new w1 (.cells #[.int .i64 x.n, .int .i64 x.m] ThT)
            have hbW : Below w1.heap.size w1 (w1.alloc (.cells #[.int .i64 x.n, .int .i64 x.m] ThT)) := (Below.refl _ _).alloc (Nat.le_refl _) _
            have d1 : (w1.alloc (.cells #[.int .i64 x.n, .int .i64 x.m] ThT)).heap[wr.heap.size]? = some (.cells #[.int .i64 K, .slice (some ⟨bl, ol, none⟩) 6 cl] 49) := (hbW.block _ hsz1).trans d0
            have HC1 := Lib.hid ((HC0.out.next hb1).next hbW)
            have HTL := Lib.hid ((HTL0.out.below hb1).below hbW)
            have hgw := HC.out.qu.dev.lt
            have hvw := HC.out.qu.own.lt
            have HPN : Hid (¬ (wr.heap.size = w.heap.size ∨ v.ownBlock = some wr.heap.size)) := Lib.hid (fun q => q.elim (fun e => by omega) (fun e => by have := (hvw _ e).2; omega))
            have HP8N : Hid (¬ (w1.heap.size = w.heap.size ∨ v.ownBlock = some w1.heap.size)) := Lib.hid (fun q => q.elim (fun e => by omega) (fun e => by have := (hvw _ e).2; omega))
            have HP8L : Hid (w1.heap.size < (w1.alloc (.cells #[.int .i64 x.n, .int .i64 x.m] ThT)).heap.size) := Lib.hid (by simp)
            have HPW : Hid (wr.heap.size < (w1.alloc (.cells #[.int .i64 x.n, .int .i64 x.m] ThT)).heap.size) := Lib.hid (by simp; omega)
            have HP8 := Lib.hid hal8
            have HP1 : Hid ((w1.alloc (.cells #[.int .i64 x.n, .int .i64 x.m] ThT)).cell? ⟨wr.heap.size, 1, none⟩ = some (.slice (some ⟨bl, ol, none⟩) 6 cl)) := Lib.hid (blk_cell d1 1)
            obtain ⟨bw, ow, ew, hbw, hcw⟩ := ((HC0.out.next hb1).ts).at_ (by rw [HWL.out]; exact hnw)
            have ca := (hcw a (by rw [HWL.out]; exact haw)).1
            have cb := (hcw a (by rw [HWL.out]; exact haw)).2
            rw [HWA.out] at ca cb
            change w1.cell? ⟨bw, ow + a * 2, none⟩ = some (.int .i64 x.n) at ca
            change w1.cell? ⟨bw, ow + a * 2 + 1, none⟩ = some (.int .i64 x.m) at cb
            have hbw2 : bw < w1.heap.size := hbw
            have hga : decide ((0 : Int) ≤ (a : Int)) = true := decide_eq_true (by omega)
            subst ew
            clear hcw hbw
            have c60 := blk_cell d0 0
            have c61 := blk_cell d0 1
            clear hal8 hbW d1 d0 hb1 hgw hvw
            rw [← hW1] at HC1 HTL HP8L HPW HP8 HP1
            rw [← hp8e] at HP8N HP8L HP8
            rw [← hp] at HPN HPW HP1
            have HW1 := Lib.hid hW1
            have HPX := Lib.hid hp
            have HP8X := Lib.hid hp8e
            clear hW1 hp8e hp
            by_cases hk0 : K = 0
            · subst hk0
              have HPU := Lib.hid (push_any w.heap.size t 6 cl (some ⟨bl, ol, none⟩) v es (ll.take 6) _ HC1.out.qu HTL.out (fun h0 ad had => ⟨fun e => by have := HLB.out h0 ad had; have := HC1.out.gb; omega, fun e => by have := HLB.out h0 ad had; have := (HC1.out.qu.own.lt _ e).1; have := HC1.out.gb; omega⟩) (by have := HC1.out.len; have := HC1.out.lim; omega) (by have := HC1.out.lim; omega))
              go_wp2_with fail
              rw [← HW1.out]
              (try rw [← HP8X.out])
              (try rw [← HPX.out])
              refine HPU.out.mono ?_
              rintro e w2 ⟨rfl, hq2⟩
              have HPA : Hid (Turns (fun j => j = w.heap.size ∨ v.ownBlock = some j) W1 w2) := Lib.hid hq2.turns
              obtain ⟨_, v2, hv2, hvo⟩ := hq2
              have HV2 := Lib.hid hv2
              have HBW2 : Hid (Below w.heap.size w w2) := Lib.hid (HC1.out.below.trans (HPA.out.below HC1.out.below.size (fun j q => q.elim (fun e => by have := HC1.out.gb; omega) (fun e => by have := (HC1.out.qu.own.lt j e).1; have := HC1.out.gb; omega))))
              have hTW := HC1.out.ts
              have HTW2 : Hid (TS w2 (some ⟨bw, ow, none⟩) nw cw (ws.map En.pr)) := Lib.hid (by
                rcases Nat.eq_zero_or_pos nw with h0 | h0
                · have h1 := HC1.out.ts
                  rw [HWL.out, h0] at h1
                  rw [h0]
                  exact ⟨h1.len, h1.cap, h1.capm, fun q => by omega⟩
                · have h1 := HC1.out.ts.turns HPA.out (fun ad had q => by
                    have h2 := HC1.out.apart (by rw [HWL.out]; exact h0) ad had
                    exact q.elim h2.1 h2.2)
                  rwa [HWL.out] at h1)
              have HTL2 : Hid (TS w2 (some ⟨bl, ol, none⟩) 6 cl (ll.take 6)) := Lib.hid (by
                rcases Nat.eq_zero_or_pos 6 with h0 | h0
                · have h1 := HTL.out
                  rw [h0] at h1 ⊢
                  exact ⟨h1.len, h1.cap, h1.capm, fun q => by omega⟩
                · exact HTL.out.turns HPA.out (fun ad had q => by
                    have h1 := HLB.out h0 ad had
                    have h2 := HC1.out.gb
                    exact q.elim (fun e => by omega) (fun e => by have := (HC1.out.qu.own.lt _ e).1; omega)))
              have c1 : w2.cell? ⟨p, 1, none⟩ = some (.slice (some ⟨bl, ol, none⟩) 6 cl) := (World.cell?_of_block (a := ⟨p, 1, none⟩) (HPA.out.block p HPW.out (fun q => HPN.out q))).trans HP1.out
              have HC2 := Lib.hid c1
              have HS2 : Hid (p < w2.heap.size) := Lib.hid (Nat.lt_of_lt_of_le HPW.out HPA.out.size)
              have HBA : Hid (Below w2.heap.size w2 (w2.alloc (.cells #[] ThT)).drew) := Lib.hid (((Below.refl _ _).alloc (Nat.le_refl _) _).drew)
              have HO0 : Hid (OwnT (w2.alloc (.cells #[] ThT)).drew w2.heap.size (.slice (some ⟨w2.heap.size, 0, none⟩) 0 0) []) := Lib.hid ⟨rfl, .inr ⟨w2.heap.size, 0, #[], rfl, Nat.le_refl _, heap_alloc_new w2 _, Nat.le_refl _, by unfold maxLen; omega, rfl, rfl⟩⟩
              have HQT := Lib.hid hvo
              clear hv2 hvo hTW
              go_wp2_with fail
              refine wp_region_F (S := fun W => W.cell? ⟨p, 1, none⟩ = some (.slice (some ⟨bl, ol, none⟩) 6 cl)) [] (by kernel_rfl) c1 (fun hHeld => ?_)
              refine wpAnyG_take (i := 1) (oi := _) (v := ?_) rfl (by kernel_rfl) (by kernel_rfl) (by kernel_rfl) (by kernel_rfl) (by kernel_rfl) (fun _ _ _ h => h) (Or.inl ⟨by rfl, ?_⟩) (by assumption) ?_
              rotate_left 1
              · intro w hSw
                (try dsimp only at hSw)
                (first | (go_simp; done) | (go_simp; with_reducible rfl))
              (try simp only [Act.put, List.getElem_toArray, List.getElem_cons_succ, List.getElem_cons_zero, List.setIfInBounds_toArray, List.set_cons_zero, List.set_cons_succ])
              refine wpAnyG_take (i := 3) (oi := _) (v := ?_) rfl (by kernel_rfl) (by kernel_rfl) (by kernel_rfl) (by kernel_rfl) (by kernel_rfl) (fun _ _ _ h => h) (Or.inl ⟨by rfl, ?_⟩) (by assumption) ?_
              rotate_left 1
              · intro w hSw
                (try dsimp only at hSw)
                (first | (go_simp; done) | (go_simp; with_reducible rfl))
              (try simp only [Act.put, List.getElem_toArray, List.getElem_cons_succ, List.getElem_cons_zero, List.setIfInBounds_toArray, List.set_cons_zero, List.set_cons_succ])
              refine wpAnyG_take (i := 4) (oi := _) (v := ?_) rfl (by kernel_rfl) (by kernel_rfl) (by kernel_rfl) (by kernel_rfl) (by kernel_rfl) (fun _ _ _ h => h) (Or.inl ⟨by rfl, ?_⟩) (by assumption) ?_
              rotate_left 1
              · intro w hSw
                (try dsimp only at hSw)
                (first | (go_simp; done) | (go_simp; with_reducible rfl))
              (try simp only [Act.put, List.getElem_toArray, List.getElem_cons_succ, List.getElem_cons_zero, List.setIfInBounds_toArray, List.set_cons_zero, List.set_cons_succ])
              refine wpAnyF_ready (rs := [0]) (by kernel_rfl) (by simp) ?_
              refine AllReadyF.cons (o := _) rfl (fun K hK => ?_) AllReadyF.nil
              go_simp
              refine hK.out _ _ (cell_next (W := w2) HC2.out HBA.out) (fun hHeld0 => ?_)
              clear hK K
              (try simp only [Act.put, List.getElem_toArray, List.getElem_cons_succ, List.getElem_cons_zero, List.setIfInBounds_toArray, List.set_cons_zero, List.set_cons_succ])
              refine wpAnyF_ready (rs := [2]) (by kernel_rfl) (by simp) ?_
              refine AllReadyF.cons (o := _) rfl (fun K hK => ?_) AllReadyF.nil
              rw [if_pos (by rfl)]
              refine wp_append_ts (ops := #[]) _ (.tmp 51) (.tmp 52) rfl w2.heap.size (.slice (some ⟨w2.heap.size, 0, none⟩) 0 0) [] rfl HO0.out (some ⟨bw, ow, none⟩) nw cw (ws.map En.pr) rfl (HTW2.out.below HBA.out) HC1.out.nil_ (by have := HC1.out.lim; have := HWL.out; first | (simp; omega) | simp) HBA.out.size ?_
              intro va vaw hva1 hva2
              have HA1 := Lib.hid hva1
              have HA2 : Hid (Below w2.heap.size w2 vaw) := Lib.hid (HBA.out.trans (hva2.below HBA.out.size (fun j q => by injection q with q; exact Nat.le_of_eq q)))
              have HLA := Lib.hid hva1.lt
              clear hva1 hva2
              refine hK.out _ _ (cell_next (W := w2) HC2.out HA2.out) (fun hHeld2 => ?_)
              clear hK K
              (try simp only [Act.put, List.getElem_toArray, List.getElem_cons_succ, List.getElem_cons_zero, List.setIfInBounds_toArray, List.set_cons_zero, List.set_cons_succ])
              refine wpAnyF_ready (rs := [5]) (by kernel_rfl) (by simp) ?_
              refine AllReadyF.cons (o := _) rfl (fun K hK => ?_) AllReadyF.nil
              rw [if_pos (by rfl)]
              refine wp_append_ts (ops := #[]) _ (.tmp 53) (.tmp 55) rfl w2.heap.size va ([] ++ ws.map En.pr) rfl HA1.out (some ⟨bl, ol, none⟩) 6 cl (ll.take 6) rfl (HTL2.out.below HA2.out) HLN.out (by have := HC1.out.lim; have := HWL.out; first | (simp; omega) | simp) HA2.out.size ?_
              intro vb vbw hvb1 hvb2
              have HB1 := Lib.hid hvb1
              have HB2 : Hid (Below w2.heap.size w2 vbw) := Lib.hid (HA2.out.trans (hvb2.below HA2.out.size (fun j q => (HLA.out j q).1)))
              clear hvb1 hvb2
              refine hK.out _ _ (cell_next (W := w2) HC2.out HB2.out) (fun hHeld5 => ?_)
              clear hK K
              (try simp only [Act.put, List.getElem_toArray, List.getElem_cons_succ, List.getElem_cons_zero, List.setIfInBounds_toArray, List.set_cons_zero, List.set_cons_succ])
              refine wpAnyF_ready (rs := [6]) (by kernel_rfl) (by simp) ?_
              refine AllReadyF.cons (o := _) rfl (fun K hK => ?_) AllReadyF.nil
              go_simp
              refine hK.out _ _ hHeld5 (fun hHeld6 => ?_)
              clear hK K
              (try simp only [Act.put, List.getElem_toArray, List.getElem_cons_succ, List.getElem_cons_zero, List.setIfInBounds_toArray, List.set_cons_zero, List.set_cons_succ])
              refine wpAnyF_done (by kernel_rfl) ?_ _
              obtain ⟨A9, c9, e9, hts9, hA9⟩ := HB1.out.ts
              have HCN : Hid (([] ++ ws.map En.pr ++ (ll.take 6)).length = (ws ++ ents t (ll.take 6)).length ∧ PlC w w.heap.size (i + 1) (pushN es t (ll.take 6)) (ws ++ ents t (ll.take 6)) (t + 6) v2 A9 c9 vbw) := Lib.hid (by
                obtain ⟨q1, q2⟩ := HC1.out.qi.push t HC1.out.tt (ll.take 6)
                have hlL := HTL.out.len
                have he : [] ++ ws.map En.pr ++ (ll.take 6) = (ws ++ ents t (ll.take 6)).map En.pr := by rw [List.map_append, ents_pr]; rfl
                have hel : (ents t (ll.take 6)).length = (ll.take 6).length := by have := congrArg List.length (ents_pr (ll.take 6) t); simpa using this
                have ho := HB1.out
                rw [he, e9] at ho
                have q3 : ∀ e ∈ ws ++ ents t (ll.take 6), e.t < t + 6 := fun e he => by have := q2 e he; rw [hlL] at this; exact this
                refine PlC.fresh q1 q3 (HV2.out.next HB2.out) ho (fun j q => ?_) (by have := HC1.out.lim; rw [List.length_append, hel, hlL]; omega) (HBW2.out.trans (HB2.out.mono HBW2.out.size)) HC1.out.gb
                rcases q with q | q
                · rw [q]; exact HV2.out.dev.lt
                · exact (HV2.out.own.lt j q).2)
              subst e9
              rw [HCN.out.1]
              have HCN := Lib.hid HCN.out.2
              have HLQ := Lib.hid (qlen_any w.heap.size (t + 6) v2 _ vbw HCN.out.qu)
              rw [HCN.out.len] at HLQ
              obtain ⟨nn, hnn⟩ : ∃ nn, (ws ++ ents t (ll.take 6)).length = nn := ⟨_, rfl⟩
              have HNN := Lib.hid hnn
              rw [hnn] at HLQ ⊢
              clear hHeld hHeld0 hHeld2 hHeld5 hHeld6 c1 hnn hts9 hA9
              go_wp2_with fail
              refine HLQ.out.mono ?_
              rintro e w9 ⟨rfl, rfl⟩
              go_wp2
              go_roundw
              case rel => exact ⟨i + 1, _, _, _, v2, A9, c9, by go_num, by rw [HNN.out], by omega, by omega, HCN.out⟩
              case measure => simp [intOf]; omega
            · have hd0 : (K == 0) = false := by rw [beq_eq_false_iff_ne]; exact hk0
              by_cases hk1 : K = 1
              · subst hk1
                have HPU := Lib.hid (push_any w.heap.size t 6 cl (some ⟨bl, ol, none⟩) v es (ll.take 6) _ HC1.out.qu HTL.out (fun h0 ad had => ⟨fun e => by have := HLB.out h0 ad had; have := HC1.out.gb; omega, fun e => by have := HLB.out h0 ad had; have := (HC1.out.qu.own.lt _ e).1; have := HC1.out.gb; omega⟩) (by have := HC1.out.len; have := HC1.out.lim; omega) (by have := HC1.out.lim; omega))
                go_wp2_with fail
                rw [← HW1.out]
                (try rw [← HP8X.out])
                (try rw [← HPX.out])
                refine HPU.out.mono ?_
                rintro e w2 ⟨rfl, hq2⟩
                have HPA : Hid (Turns (fun j => j = w.heap.size ∨ v.ownBlock = some j) W1 w2) := Lib.hid hq2.turns
                obtain ⟨_, v2, hv2, hvo⟩ := hq2
                have HV2 := Lib.hid hv2
                have HBW2 : Hid (Below w.heap.size w w2) := Lib.hid (HC1.out.below.trans (HPA.out.below HC1.out.below.size (fun j q => q.elim (fun e => by have := HC1.out.gb; omega) (fun e => by have := (HC1.out.qu.own.lt j e).1; have := HC1.out.gb; omega))))
                have hTW := HC1.out.ts
                have HTW2 : Hid (TS w2 (some ⟨bw, ow, none⟩) nw cw (ws.map En.pr)) := Lib.hid (by
                  rcases Nat.eq_zero_or_pos nw with h0 | h0
                  · have h1 := HC1.out.ts
                    rw [HWL.out, h0] at h1
                    rw [h0]
                    exact ⟨h1.len, h1.cap, h1.capm, fun q => by omega⟩
                  · have h1 := HC1.out.ts.turns HPA.out (fun ad had q => by
                      have h2 := HC1.out.apart (by rw [HWL.out]; exact h0) ad had
                      exact q.elim h2.1 h2.2)
                    rwa [HWL.out] at h1)
                have HTL2 : Hid (TS w2 (some ⟨bl, ol, none⟩) 6 cl (ll.take 6)) := Lib.hid (by
                  rcases Nat.eq_zero_or_pos 6 with h0 | h0
                  · have h1 := HTL.out
                    rw [h0] at h1 ⊢
                    exact ⟨h1.len, h1.cap, h1.capm, fun q => by omega⟩
                  · exact HTL.out.turns HPA.out (fun ad had q => by
                      have h1 := HLB.out h0 ad had
                      have h2 := HC1.out.gb
                      exact q.elim (fun e => by omega) (fun e => by have := (HC1.out.qu.own.lt _ e).1; omega)))
                have c1 : w2.cell? ⟨p, 1, none⟩ = some (.slice (some ⟨bl, ol, none⟩) 6 cl) := (World.cell?_of_block (a := ⟨p, 1, none⟩) (HPA.out.block p HPW.out (fun q => HPN.out q))).trans HP1.out
                have HC2 := Lib.hid c1
                have HS2 : Hid (p < w2.heap.size) := Lib.hid (Nat.lt_of_lt_of_le HPW.out HPA.out.size)
                have HBA : Hid (Below w2.heap.size w2 (w2.alloc (.cells #[] ThT)).drew) := Lib.hid (((Below.refl _ _).alloc (Nat.le_refl _) _).drew)
                have HO0 : Hid (OwnT (w2.alloc (.cells #[] ThT)).drew w2.heap.size (.slice (some ⟨w2.heap.size, 0, none⟩) 0 0) []) := Lib.hid ⟨rfl, .inr ⟨w2.heap.size, 0, #[], rfl, Nat.le_refl _, heap_alloc_new w2 _, Nat.le_refl _, by unfold maxLen; omega, rfl, rfl⟩⟩
                have HQT := Lib.hid hvo
                clear hv2 hvo hTW
                go_wp2_with fail
                refine wp_region_F (S := fun W => W.cell? ⟨p, 1, none⟩ = some (.slice (some ⟨bl, ol, none⟩) 6 cl)) [] (by kernel_rfl) c1 (fun hHeld => ?_)
                refine wpAnyG_take (i := 1) (oi := _) (v := ?_) rfl (by kernel_rfl) (by kernel_rfl) (by kernel_rfl) (by kernel_rfl) (by kernel_rfl) (fun _ _ _ h => h) (Or.inl ⟨by rfl, ?_⟩) (by assumption) ?_
                rotate_left 1
                · intro w hSw
                  (try dsimp only at hSw)
                  (first | (go_simp; done) | (go_simp; with_reducible rfl))
                (try simp only [Act.put, List.getElem_toArray, List.getElem_cons_succ, List.getElem_cons_zero, List.setIfInBounds_toArray, List.set_cons_zero, List.set_cons_succ])
                refine wpAnyG_take (i := 3) (oi := _) (v := ?_) rfl (by kernel_rfl) (by kernel_rfl) (by kernel_rfl) (by kernel_rfl) (by kernel_rfl) (fun _ _ _ h => h) (Or.inl ⟨by rfl, ?_⟩) (by assumption) ?_
                rotate_left 1
                · intro w hSw
                  (try dsimp only at hSw)
                  (first | (go_simp; done) | (go_simp; with_reducible rfl))
                (try simp only [Act.put, List.getElem_toArray, List.getElem_cons_succ, List.getElem_cons_zero, List.setIfInBounds_toArray, List.set_cons_zero, List.set_cons_succ])
                refine wpAnyG_take (i := 4) (oi := _) (v := ?_) rfl (by kernel_rfl) (by kernel_rfl) (by kernel_rfl) (by kernel_rfl) (by kernel_rfl) (fun _ _ _ h => h) (Or.inl ⟨by rfl, ?_⟩) (by assumption) ?_
                rotate_left 1
                · intro w hSw
                  (try dsimp only at hSw)
                  (first | (go_simp; done) | (go_simp; with_reducible rfl))
                (try simp only [Act.put, List.getElem_toArray, List.getElem_cons_succ, List.getElem_cons_zero, List.setIfInBounds_toArray, List.set_cons_zero, List.set_cons_succ])
                refine wpAnyF_ready (rs := [0]) (by kernel_rfl) (by simp) ?_
                refine AllReadyF.cons (o := _) rfl (fun K hK => ?_) AllReadyF.nil
                go_simp
                refine hK.out _ _ (cell_next (W := w2) HC2.out HBA.out) (fun hHeld0 => ?_)
                clear hK K
                (try simp only [Act.put, List.getElem_toArray, List.getElem_cons_succ, List.getElem_cons_zero, List.setIfInBounds_toArray, List.set_cons_zero, List.set_cons_succ])
                refine wpAnyF_ready (rs := [2]) (by kernel_rfl) (by simp) ?_
                refine AllReadyF.cons (o := _) rfl (fun K hK => ?_) AllReadyF.nil
                rw [if_pos (by rfl)]
                refine wp_append_ts (ops := #[]) _ (.tmp 51) (.tmp 52) rfl w2.heap.size (.slice (some ⟨w2.heap.size, 0, none⟩) 0 0) [] rfl HO0.out (some ⟨bw, ow, none⟩) nw cw (ws.map En.pr) rfl (HTW2.out.below HBA.out) HC1.out.nil_ (by have := HC1.out.lim; have := HWL.out; first | (simp; omega) | simp) HBA.out.size ?_
                intro va vaw hva1 hva2
                have HA1 := Lib.hid hva1
                have HA2 : Hid (Below w2.heap.size w2 vaw) := Lib.hid (HBA.out.trans (hva2.below HBA.out.size (fun j q => by injection q with q; exact Nat.le_of_eq q)))
                have HLA := Lib.hid hva1.lt
                clear hva1 hva2
                refine hK.out _ _ (cell_next (W := w2) HC2.out HA2.out) (fun hHeld2 => ?_)
                clear hK K
                (try simp only [Act.put, List.getElem_toArray, List.getElem_cons_succ, List.getElem_cons_zero, List.setIfInBounds_toArray, List.set_cons_zero, List.set_cons_succ])
                refine wpAnyF_ready (rs := [5]) (by kernel_rfl) (by simp) ?_
                refine AllReadyF.cons (o := _) rfl (fun K hK => ?_) AllReadyF.nil
                rw [if_pos (by rfl)]
                refine wp_append_ts (ops := #[]) _ (.tmp 53) (.tmp 55) rfl w2.heap.size va ([] ++ ws.map En.pr) rfl HA1.out (some ⟨bl, ol, none⟩) 6 cl (ll.take 6) rfl (HTL2.out.below HA2.out) HLN.out (by have := HC1.out.lim; have := HWL.out; first | (simp; omega) | simp) HA2.out.size ?_
                intro vb vbw hvb1 hvb2
                have HB1 := Lib.hid hvb1
                have HB2 : Hid (Below w2.heap.size w2 vbw) := Lib.hid (HA2.out.trans (hvb2.below HA2.out.size (fun j q => (HLA.out j q).1)))
                clear hvb1 hvb2
                refine hK.out _ _ (cell_next (W := w2) HC2.out HB2.out) (fun hHeld5 => ?_)
                clear hK K
                (try simp only [Act.put, List.getElem_toArray, List.getElem_cons_succ, List.getElem_cons_zero, List.setIfInBounds_toArray, List.set_cons_zero, List.set_cons_succ])
                refine wpAnyF_ready (rs := [6]) (by kernel_rfl) (by simp) ?_
                refine AllReadyF.cons (o := _) rfl (fun K hK => ?_) AllReadyF.nil
                go_simp
                refine hK.out _ _ hHeld5 (fun hHeld6 => ?_)
                clear hK K
                (try simp only [Act.put, List.getElem_toArray, List.getElem_cons_succ, List.getElem_cons_zero, List.setIfInBounds_toArray, List.set_cons_zero, List.set_cons_succ])
                refine wpAnyF_done (by kernel_rfl) ?_ _
                obtain ⟨A9, c9, e9, hts9, hA9⟩ := HB1.out.ts
                have HCN : Hid (([] ++ ws.map En.pr ++ (ll.take 6)).length = (ws ++ ents t (ll.take 6)).length ∧ PlC w w.heap.size (i + 1) (pushN es t (ll.take 6)) (ws ++ ents t (ll.take 6)) (t + 6) v2 A9 c9 vbw) := Lib.hid (by
                  obtain ⟨q1, q2⟩ := HC1.out.qi.push t HC1.out.tt (ll.take 6)
                  have hlL := HTL.out.len
                  have he : [] ++ ws.map En.pr ++ (ll.take 6) = (ws ++ ents t (ll.take 6)).map En.pr := by rw [List.map_append, ents_pr]; rfl
                  have hel : (ents t (ll.take 6)).length = (ll.take 6).length := by have := congrArg List.length (ents_pr (ll.take 6) t); simpa using this
                  have ho := HB1.out
                  rw [he, e9] at ho
                  have q3 : ∀ e ∈ ws ++ ents t (ll.take 6), e.t < t + 6 := fun e he => by have := q2 e he; rw [hlL] at this; exact this
                  refine PlC.fresh q1 q3 (HV2.out.next HB2.out) ho (fun j q => ?_) (by have := HC1.out.lim; rw [List.length_append, hel, hlL]; omega) (HBW2.out.trans (HB2.out.mono HBW2.out.size)) HC1.out.gb
                  rcases q with q | q
                  · rw [q]; exact HV2.out.dev.lt
                  · exact (HV2.out.own.lt j q).2)
                subst e9
                rw [HCN.out.1]
                have HCN := Lib.hid HCN.out.2
                have HLQ := Lib.hid (qlen_any w.heap.size (t + 6) v2 _ vbw HCN.out.qu)
                rw [HCN.out.len] at HLQ
                obtain ⟨nn, hnn⟩ : ∃ nn, (ws ++ ents t (ll.take 6)).length = nn := ⟨_, rfl⟩
                have HNN := Lib.hid hnn
                rw [hnn] at HLQ ⊢
                clear hHeld hHeld0 hHeld2 hHeld5 hHeld6 c1 hnn hts9 hA9
                go_wp2_with fail
                refine HLQ.out.mono ?_
                rintro e w9 ⟨rfl, rfl⟩
                go_wp2
                go_roundw
                case rel => exact ⟨i + 1, _, _, _, v2, A9, c9, by go_num, by rw [HNN.out], by omega, by omega, HCN.out⟩
                case measure => simp [intOf]; omega
              · have hd1 : (K == 1) = false := by rw [beq_eq_false_iff_ne]; exact hk1
                by_cases hk2 : K = 2
                · subst hk2
                  have hel : 0 < es.length := by rw [HC1.out.len, HWL.out]; exact hnw
                  have HPO := Lib.hid (pop_any w.heap.size t v es W1 HC1.out.qu hel (by have := HC1.out.lim; have := HC1.out.len; omega))
                  have HPQ := Lib.hid (HC1.out.qi.pop HLA.out)
                  unfold PopE at HPO
                  rw [HPQ.out.1, HEA.out] at HPO
                  have hneq := neq_th x.n x.m
                  clear hel
                  go_wp2_with fail
                  rw [← HW1.out]
                  (try rw [← HP8X.out])
                  (try rw [← HPX.out])
                  refine HPO.out.mono ?_
                  rintro e w3 ⟨rfl, hq3⟩
                  have HPA : Hid (Turns (fun j => j = w.heap.size ∨ v.ownBlock = some j) W1 w3) := Lib.hid hq3.turns
                  obtain ⟨_, v3, hv3, hvo⟩ := hq3
                  have HV3 := Lib.hid (hv3.next ((Below.refl w3.heap.size w3).alloc (Nat.le_refl _) (.cells #[.int .i64 x.n, .int .i64 x.m] ThT)))
                  have HBW3 : Hid (Below w.heap.size w (w3.alloc (.cells #[.int .i64 x.n, .int .i64 x.m] ThT))) := Lib.hid ((HC1.out.below.trans (HPA.out.below HC1.out.below.size (fun j q => q.elim (fun e => by have := HC1.out.gb; omega) (fun e => by have := (HC1.out.qu.own.lt j e).1; have := HC1.out.gb; omega)))).alloc (Nat.le_trans HC1.out.below.size HPA.out.size) _)
                  have hTW3 : TS w3 (some ⟨bw, ow, none⟩) nw cw (ws.map En.pr) := by
                    have h1 := HC1.out.ts.turns HPA.out (fun ad had q => by
                      have h2 := HC1.out.apart (by rw [HWL.out]; exact hnw) ad had
                      exact q.elim h2.1 h2.2)
                    rwa [HWL.out] at h1
                  have HCT := Lib.hid (cut_any (some ⟨bw, ow, none⟩) nw cw a (ws.map En.pr) _ (hTW3.below ((Below.refl w3.heap.size w3).alloc (Nat.le_refl _) (.cells #[.int .i64 x.n, .int .i64 x.m] ThT))) (by have := HC1.out.lim; have := HWL.out; omega) haw)
                  have d8 : w3.heap[p8]? = some (.cells #[.int .i64 x.n, .int .i64 x.m] ThT) := (HPA.out.block _ HP8L.out (fun q => HP8N.out q)).trans HP8.out
                  have c80 := blk_cell d8 0
                  have c81 := blk_cell d8 1
                  have hp8 : p8 < w3.heap.size := blk_lt d8
                  clear hv3 hvo hTW3 d8
                  go_wp2_with fail
                  refine HCT.out.mono ?_
                  rintro e w4 ⟨v4, rfl, ho4, hb4⟩
                  obtain ⟨A9, c9, e9, _, _⟩ := ho4.ts
                  have HCN : Hid (((ws.map En.pr).eraseIdx a).length = (ws.eraseIdx a).length ∧ PlC w w.heap.size (i + 1) (popF es) (ws.eraseIdx a) t v3 A9 c9 w4) := Lib.hid (by
                    have ho := ho4
                    rw [← map_erase, e9, ← map_erase] at ho
                    rw [← map_erase]
                    refine PlC.fresh HPQ.out.2 (fun e he => HC1.out.tt e (List.mem_of_mem_eraseIdx he)) (HV3.out.next hb4) ho (fun j q => ?_) (by have := HC1.out.lim; have := List.length_eraseIdx_le ws a; omega) (HBW3.out.trans (hb4.mono HBW3.out.size)) HC1.out.gb
                    rcases q with q | q
                    · rw [q]; exact HV3.out.dev.lt
                    · exact (HV3.out.own.lt j q).2)
                  clear ho4 hb4
                  subst e9
                  rw [HCN.out.1]
                  have HCN := Lib.hid HCN.out.2
                  have HLQ := Lib.hid (qlen_any w.heap.size t v3 _ w4 HCN.out.qu)
                  rw [HCN.out.len] at HLQ
                  obtain ⟨nn, hnn⟩ : ∃ nn, (ws.eraseIdx a).length = nn := ⟨_, rfl⟩
                  have HNN := Lib.hid hnn
                  rw [hnn] at HLQ ⊢
                  clear hnn
                  go_wp2_with fail
                  refine HLQ.out.mono ?_
                  rintro e w9 ⟨rfl, rfl⟩
                  go_wp2
                  go_roundw
                  case rel => exact ⟨i + 1, _, _, _, v3, A9, c9, by go_num, by rw [HNN.out], by omega, by omega, HCN.out⟩
                  case measure => simp [intOf]; omega
                · have hd2 : (K == 2) = false := by rw [beq_eq_false_iff_ne]; exact hk2
                  by_cases hk3 : K = 3
                  · subst hk3
                    have hel : 0 < es.length := by rw [HC1.out.len, HWL.out]; exact hnw
                    have HPO := Lib.hid (peek_any w.heap.size t v es W1 HC1.out.qu hel (by have := HC1.out.lim; have := HC1.out.len; omega))
                    rw [HC1.out.qi.first HLA.out, HEA.out] at HPO
                    have hneq := neq_th x.n x.m
                    clear hel
                    go_wp2_with fail
                    rw [← HW1.out]
                    (try rw [← HP8X.out])
                    (try rw [← HPX.out])
                    refine HPO.out.mono ?_
                    rintro e w3 ⟨rfl, hb3⟩
                    have HCN : Hid (PlC w w.heap.size (i + 1) es ws t v (some ⟨bw, ow, none⟩) cw (w3.alloc (.cells #[.int .i64 x.n, .int .i64 x.m] ThT))) := Lib.hid (((HC1.out.next hb3).next ((Below.refl _ _).alloc (Nat.le_refl _) _)).step)
                    have HLQ := Lib.hid (qlen_any w.heap.size t v es _ HCN.out.qu)
                    rw [HCN.out.len, HWL.out] at HLQ
                    have d8 : w3.heap[p8]? = some (.cells #[.int .i64 x.n, .int .i64 x.m] ThT) := (hb3.block _ HP8L.out).trans HP8.out
                    have c80 := blk_cell d8 0
                    have c81 := blk_cell d8 1
                    have hp8 : p8 < w3.heap.size := blk_lt d8
                    clear hb3 d8
                    go_wp2_with fail
                    refine HLQ.out.mono ?_
                    rintro e w9 ⟨rfl, rfl⟩
                    go_wp2
                    go_roundw
                    case rel => exact ⟨i + 1, es, ws, t, v, (some ⟨bw, ow, none⟩), cw, by go_num, by rw [HWL.out], by omega, by omega, HCN.out⟩
                    case measure => simp [intOf]; omega
                  · have hd3 : (K == 3) = false := by rw [beq_eq_false_iff_ne]; exact hk3
                    by_cases hk4 : K = 4
                    · subst hk4
                      have HAL := Lib.hid (all_any w.heap.size t v es W1 HC1.out.qu (by have := HC1.out.lim; have := HC1.out.len; omega))
                      go_wp2_with fail
                      rw [← HW1.out]
                      (try rw [← HP8X.out])
                      (try rw [← HPX.out])
                      refine HAL.out.mono ?_
                      rintro e w4 ⟨A4, c4, rfl, hts4, hA4, hq4⟩
                      have HPA : Hid (Turns (fun j => j = w.heap.size ∨ v.ownBlock = some j) W1 w4) := Lib.hid hq4.turns
                      obtain ⟨v4, hv4⟩ := hq4.qu_
                      have HESL : Hid (es.length = nw) := Lib.hid (by rw [HC1.out.len, HWL.out])
                      have HBW4 : Hid (Below w.heap.size w w4) := Lib.hid (HC1.out.below.trans (HPA.out.below HC1.out.below.size (fun j q => q.elim (fun e => by have := HC1.out.gb; omega) (fun e => by have := (HC1.out.qu.own.lt j e).1; have := HC1.out.gb; omega))))
                      obtain ⟨P, hP⟩ : ∃ P, popsL es.length es = P := ⟨_, rfl⟩
                      have HPE := Lib.hid hP
                      rw [hP] at hts4
                      rw [HESL.out] at hts4 ⊢
                      have hc4 := hts4.cap
                      have hc5 := hts4.capm
                      have HST2 : Hid (PaR w w.heap.size t v4 es A4 nw c4 P (.slice (some ⟨bw, ow, none⟩) nw cw) (.int .i64 0) w4) := Lib.hid (by
                        refine ⟨0, ws, (some ⟨bw, ow, none⟩), cw, rfl, by rw [HWL.out], by rw [HWL.out, Nat.zero_add], HC1.out.qi, ?_, HC1.out.nil_, hts4, HBW4.out, hv4⟩
                        rcases Nat.eq_zero_or_pos ws.length with h0 | h0
                        · have h1 := HC1.out.ts
                          exact ⟨h1.len, h1.cap, h1.capm, fun q => by omega⟩
                        · exact HC1.out.ts.turns HPA.out (fun ad had q => by
                            have h2 := HC1.out.apart h0 ad had
                            exact q.elim h2.1 h2.2))
                      have hnwm : nw ≤ 1000000000 := by have := HC1.out.lim; have := HWL.out; omega
                      clear hts4 hA4 hq4 hv4 hP
                      go_wp2_with fail
                      go_loopw [4, 98] (fun wv iv W => PaR w w.heap.size t v4 es A4 nw c4 P wv iv W) (fun _ iv _ => nw - (intOf iv).toNat)
                      case atStart => exact HST2.out
                      case round =>
                        obtain ⟨k, ws2, A2, c2, rfl, rfl, hkm, hqi, htw, hn2, ht4, hb, hv⟩ := hrel
                        have HQ := Lib.hid hqi
                        have HTW := Lib.hid htw
                        have HT4 := Lib.hid ht4
                        have HB := Lib.hid hb
                        have HV := Lib.hid hv
                        have HN2 := Lib.hid hn2
                        have hwc := htw.cap
                        have hwm := htw.capm
                        obtain ⟨n2, hnw2⟩ : ∃ n2, ws2.length = n2 := ⟨_, rfl⟩
                        have HNWL := Lib.hid hnw2
                        rw [hnw2] at HTW hkm hwc ⊢
                        clear hqi htw ht4 hb hnw2 hv hn2 HST2
                        by_cases hlt : k < nw
                        · have hnp : 0 < n2 := by omega
                          obtain ⟨b4, o4, e4, hbw4, hcell4⟩ := HT4.out.at_ (by omega)
                          obtain ⟨a, ha, hfl⟩ := leastF_fl (ws2.map En.pr) (by rw [List.length_map, HNWL.out]; exact hnp)
                          rw [List.length_map, HNWL.out] at ha
                          have hla := LeastAt.of_fl HQ.out.sorted hfl
                          obtain ⟨hpE, hqi2⟩ := HQ.out.pop hla
                          have hal : a < n2 := by have := hla.1; rw [HNWL.out] at this; exact this
                          obtain ⟨x, hx⟩ : ∃ x, popE (restL k es) = x := ⟨_, rfl⟩
                          have hPk : P.getD k (0, 0) = x.pr := by rw [← HPE.out, popsL_get _ _ _ (by rw [HESL.out]; exact hlt), hx]
                          have hwa : (ws2.map En.pr).getD a (0, 0) = x.pr := by rw [getD_pr ws2 a hla.1, ← hpE, hx]
                          have c1 := (hcell4 k hlt).1
                          have c2' := (hcell4 k hlt).2
                          rw [hPk] at c1 c2'
                          change wr.cell? ⟨b4, o4 + k * 2, none⟩ = some (.int .i64 x.n) at c1
                          change wr.cell? ⟨b4, o4 + k * 2 + 1, none⟩ = some (.int .i64 x.m) at c2'
                          have HLE2 := Lib.hid (least_any A2 n2 c2 (ws2.map En.pr) (wr.alloc (.cells #[.int .i64 x.n, .int .i64 x.m] ThT)) (HTW.out.below ((Below.refl _ _).alloc (Nat.le_refl _) _)) (by omega))
                          rw [ha] at HLE2
                          have hal7 := heap_alloc_new wr (.cells #[.int .i64 x.n, .int .i64 x.m] ThT)
                          have HQ2 : Hid (QI (restL (k + 1) es) (ws2.eraseIdx a)) := Lib.hid (by rw [restL_succ]; exact hqi2)
                          have HWA2 := Lib.hid hwa
                          have HAL7 := Lib.hid hal7
                          have hneq := neq_th x.n x.m
                          subst e4
                          clear hcell4 ha hfl hla hpE hqi2 hx hPk hwa hal7
                          go_wp2_with fail
                          refine HLE2.out.mono ?_
                          rintro e w6 ⟨rfl, hb6⟩
                          have HW6 : Hid (After wr w6) := Lib.hid ((Below.refl _ _).alloc (Nat.le_refl _) _ |>.trans (hb6.mono (by simp)))
                          have d7 : w6.heap[wr.heap.size]? = some (.cells #[.int .i64 x.n, .int .i64 x.m] ThT) := (hb6.block _ (by simp)).trans HAL7.out
                          have c70 := blk_cell d7 0
                          have c71 := blk_cell d7 1
                          have HTW6 := Lib.hid (HTW.out.below HW6.out)
                          have HT46 := Lib.hid (HT4.out.below HW6.out)
                          have HV6 := Lib.hid (HV.out.next HW6.out)
                          have HB6 : Hid (Below w.heap.size w w6) := Lib.hid (HB.out.trans (Below.mono HW6.out HB.out.size))
                          obtain ⟨bw2, ow2, ew2, hbw2', hcw2⟩ := HTW6.out.at_ hnp
                          have ca2 := (hcw2 a hal).1
                          have cb2 := (hcw2 a hal).2
                          rw [HWA2.out] at ca2 cb2
                          change w6.cell? ⟨bw2, ow2 + a * 2, none⟩ = some (.int .i64 x.n) at ca2
                          change w6.cell? ⟨bw2, ow2 + a * 2 + 1, none⟩ = some (.int .i64 x.m) at cb2
                          have HCT := Lib.hid (fun q => cut_any A2 n2 c2 a (ws2.map En.pr) (w6.drewN q) (HTW6.out.drewN q) (by omega) hal)
                          have hga2 : decide ((a : Int) < 0) = false := decide_eq_false (by omega)
                          subst ew2
                          clear hb6 d7 hcw2
                          go_wp2_with fail
                          go_quiet (fail)
                          go_wp2_with fail
                          refine (HCT.out _).mono ?_
                          rintro e w8 ⟨v8, rfl, ho8, hb8⟩
                          obtain ⟨A8, c8, e8, ht8, _⟩ := ho8.ts
                          subst e8
                          have HE : Hid (PaR w w.heap.size t v4 es (some ⟨b4, o4, none⟩) nw c4 P (.slice A8 (ws2.map En.pr |>.eraseIdx a).length c8) (.int .i64 ((k : Int) + 1)) w8) := Lib.hid (by
                            have hle : ((ws2.map En.pr).eraseIdx a).length = (ws2.eraseIdx a).length := by rw [← map_erase, List.length_map]
                            have hl1 : (ws2.eraseIdx a).length = n2 - 1 := by rw [List.length_eraseIdx_of_lt (by rw [HNWL.out]; exact hal), HNWL.out]
                            refine ⟨k + 1, ws2.eraseIdx a, A8, c8, by simp, by rw [hle], by omega, HQ2.out, ?_, ho8.nil_, (HT46.out.drewN _).below hb8, (below_drewN HB6.out _).trans (hb8.mono HB6.out.size), (HV6.out.next (below_drewN (Below.refl _ _) _)).next hb8⟩
                            rw [map_erase, ← hle]; exact ht8)
                          clear ho8 hb8 ht8
                          go_wp2
                          go_roundw
                          case rel => exact HE.out
                          case measure => first | (simp [intOf]; omega) | simp [intOf]
                        · have hn20 : n2 = 0 := by omega
                          subst hn20
                          have HCN : Hid (PlC w w.heap.size (i + 1) [] [] t v4 A2 c2 wr) := Lib.hid (by
                            have h1 := HTW.out
                            exact ⟨QI.nil, (fun _ h => by cases h), HV.out, ⟨rfl, h1.cap, h1.capm, (fun q => by simp at q)⟩, HN2.out, (fun q => by simp at q), (by have := HC1.out.lim; simp; omega), HB.out, HC1.out.gb⟩)
                          have HLQ := Lib.hid (qlen_any w.heap.size t v4 [] _ HCN.out.qu)
                          go_wp2_with fail
                          refine HLQ.out.mono ?_
                          rintro e w9 ⟨rfl, rfl⟩
                          go_wp2
                          go_roundw
                          case rel => exact ⟨i + 1, [], [], t, v4, A2, c2, by go_num, rfl, by omega, by omega, HCN.out⟩
                          case measure => simp [intOf]; omega
                    · have hd4 : (K == 4) = false := by rw [beq_eq_false_iff_ne]; exact hk4
                      have HCN : Hid (PlC w w.heap.size (i + 1) es ws t v (some ⟨bw, ow, none⟩) cw W1) := Lib.hid (HC1.out.step)
                      have HLQ := Lib.hid (qlen_any w.heap.size t v es _ HCN.out.qu)
                      rw [HCN.out.len, HWL.out] at HLQ
                      go_wp2_with fail
                      rw [← HW1.out]
                      (try rw [← HP8X.out])
                      (try rw [← HPX.out])
                      refine HLQ.out.mono ?_
                      rintro e w9 ⟨rfl, rfl⟩
                      go_wp2
                      go_roundw
                      case rel => exact ⟨i + 1, es, ws, t, v, (some ⟨bw, ow, none⟩), cw, by go_num, by rw [HWL.out], by omega, by omega, HCN.out⟩
                      case measure => simp [intOf]; omega
        · obtain ⟨AL, hAL⟩ : ∃ AL, AL = Al := ⟨_, rfl⟩
          obtain ⟨nL, hnL⟩ : ∃ nL, nL = nl := ⟨_, rfl⟩
          obtain ⟨cL, hcL⟩ : ∃ cL, cL = cl := ⟨_, rfl⟩
          obtain ⟨lL, hlL⟩ : ∃ lL, lL = ll := ⟨_, rfl⟩
          rw [← hAL, ← hnL, ← hcL] at k1
          rw [← hAL, ← hnL, ← hcL, ← hlL] at htl
          rw [← hAL, ← hcL] at hnl
          rw [← hAL, ← hnL] at hlb
          rw [← hnL] at hL htlc
          rw [← hcL] at htlc htlm
          have HTLr := Lib.hid htl
          have HLN := Lib.hid hnl
          have HLB := Lib.hid hlb
          clear htl hnl hlb hops hAL hnL hcL hlL
          have HP0 := Lib.hid (heap_alloc_new wr (.cells #[.int .i64 K, .slice AL nL cL] 49))
          have HC0 := Lib.hid (HC.out.next ((Below.refl wr.heap.size wr).alloc (Nat.le_refl _) (.cells #[.int .i64 K, .slice AL nL cL] 49)))
          have HTL0 := Lib.hid (HTLr.out.below ((Below.refl wr.heap.size wr).alloc (Nat.le_refl _) (.cells #[.int .i64 K, .slice AL nL cL] 49)))
          have HLE := Lib.hid (least_any Aw nw cw (ws.map En.pr) _ (by have := HC0.out.ts; rwa [HWL.out] at this) (by have := HC0.out.lim; have := HWL.out; omega))
          rcases Nat.eq_zero_or_pos nw with hnw | hnw
          · subst hnw
            have e1 : leastF (ws.map En.pr) 0 = -1 := rfl
            rw [e1] at HLE
            clear e1
            go_wp2_with fail
            refine HLE.out.mono ?_
            rintro e w1 ⟨rfl, hb1⟩
            have hsz1 : wr.heap.size < w1.heap.size := by have := hb1.size; simp at this; omega
            have d0 : w1.heap[wr.heap.size]? = some (.cells #[.int .i64 K, .slice AL nL cL] 49) := (hb1.block _ (by simp)).trans HP0.out
            obtain ⟨W1, hW1⟩ : ∃ W1, W1 = w1.alloc (.cells #[.int .i64 0, .int .i64 0] ThT) := ⟨_, rfl⟩
            obtain ⟨p, hp⟩ : ∃ p, p = wr.heap.size := ⟨_, rfl⟩
            obtain ⟨p8, hp8e⟩ : ∃ p8, p8 = w1.heap.size := ⟨_, rfl⟩
            have hal8 := heap_alloc_new w1 (.cells #[.int .i64 0, .int .i64 0] ThT)
            have hbW : Below w1.heap.size w1 (w1.alloc (.cells #[.int .i64 0, .int .i64 0] ThT)) := (Below.refl _ _).alloc (Nat.le_refl _) _
            have d1 : (w1.alloc (.cells #[.int .i64 0, .int .i64 0] ThT)).heap[wr.heap.size]? = some (.cells #[.int .i64 K, .slice AL nL cL] 49) := (hbW.block _ hsz1).trans d0
            have HC1 := Lib.hid ((HC0.out.next hb1).next hbW)
            have HTL := Lib.hid ((HTL0.out.below hb1).below hbW)
            have hgw := HC.out.qu.dev.lt
            have hvw := HC.out.qu.own.lt
            have HPN : Hid (¬ (wr.heap.size = w.heap.size ∨ v.ownBlock = some wr.heap.size)) := Lib.hid (fun q => q.elim (fun e => by omega) (fun e => by have := (hvw _ e).2; omega))
            have HP8N : Hid (¬ (w1.heap.size = w.heap.size ∨ v.ownBlock = some w1.heap.size)) := Lib.hid (fun q => q.elim (fun e => by omega) (fun e => by have := (hvw _ e).2; omega))
            have HP8L : Hid (w1.heap.size < (w1.alloc (.cells #[.int .i64 0, .int .i64 0] ThT)).heap.size) := Lib.hid (by simp)
            have HPW : Hid (wr.heap.size < (w1.alloc (.cells #[.int .i64 0, .int .i64 0] ThT)).heap.size) := Lib.hid (by simp; omega)
            have HP8 := Lib.hid hal8
            have HP1 : Hid ((w1.alloc (.cells #[.int .i64 0, .int .i64 0] ThT)).cell? ⟨wr.heap.size, 1, none⟩ = some (.slice AL nL cL)) := Lib.hid (blk_cell d1 1)
            have c60 := blk_cell d0 0
            have c61 := blk_cell d0 1
            clear hal8 hbW d1 d0 hb1 hgw hvw
            rw [← hW1] at HC1 HTL HP8L HPW HP8 HP1
            rw [← hp8e] at HP8N HP8L HP8
            rw [← hp] at HPN HPW HP1
            have HW1 := Lib.hid hW1
            have HPX := Lib.hid hp
            have HP8X := Lib.hid hp8e
            clear hW1 hp8e hp
            by_cases hk0 : K = 0
            · subst hk0
              have HPU := Lib.hid (push_any w.heap.size t nL cL AL v es lL _ HC1.out.qu HTL.out (fun h0 ad had => ⟨fun e => by have := HLB.out h0 ad had; have := HC1.out.gb; omega, fun e => by have := HLB.out h0 ad had; have := (HC1.out.qu.own.lt _ e).1; have := HC1.out.gb; omega⟩) (by have := HC1.out.len; have := HC1.out.lim; omega) (by have := HC1.out.lim; omega))
              go_wp2_with fail
              rw [← HW1.out]
              (try rw [← HP8X.out])
              (try rw [← HPX.out])
              refine HPU.out.mono ?_
              rintro e w2 ⟨rfl, hq2⟩
              have HPA : Hid (Turns (fun j => j = w.heap.size ∨ v.ownBlock = some j) W1 w2) := Lib.hid hq2.turns
              obtain ⟨_, v2, hv2, hvo⟩ := hq2
              have HV2 := Lib.hid hv2
              have HBW2 : Hid (Below w.heap.size w w2) := Lib.hid (HC1.out.below.trans (HPA.out.below HC1.out.below.size (fun j q => q.elim (fun e => by have := HC1.out.gb; omega) (fun e => by have := (HC1.out.qu.own.lt j e).1; have := HC1.out.gb; omega))))
              have hTW := HC1.out.ts
              have HTW2 : Hid (TS w2 Aw 0 cw (ws.map En.pr)) := Lib.hid (by
                rcases Nat.eq_zero_or_pos 0 with h0 | h0
                · have h1 := HC1.out.ts
                  rw [HWL.out, h0] at h1
                  rw [h0]
                  exact ⟨h1.len, h1.cap, h1.capm, fun q => by omega⟩
                · have h1 := HC1.out.ts.turns HPA.out (fun ad had q => by
                    have h2 := HC1.out.apart (by rw [HWL.out]; exact h0) ad had
                    exact q.elim h2.1 h2.2)
                  rwa [HWL.out] at h1)
              have HTL2 : Hid (TS w2 AL nL cL lL) := Lib.hid (by
                rcases Nat.eq_zero_or_pos nL with h0 | h0
                · have h1 := HTL.out
                  rw [h0] at h1 ⊢
                  exact ⟨h1.len, h1.cap, h1.capm, fun q => by omega⟩
                · exact HTL.out.turns HPA.out (fun ad had q => by
                    have h1 := HLB.out h0 ad had
                    have h2 := HC1.out.gb
                    exact q.elim (fun e => by omega) (fun e => by have := (HC1.out.qu.own.lt _ e).1; omega)))
              have c1 : w2.cell? ⟨p, 1, none⟩ = some (.slice AL nL cL) := (World.cell?_of_block (a := ⟨p, 1, none⟩) (HPA.out.block p HPW.out (fun q => HPN.out q))).trans HP1.out
              have HC2 := Lib.hid c1
              have HS2 : Hid (p < w2.heap.size) := Lib.hid (Nat.lt_of_lt_of_le HPW.out HPA.out.size)
              have HBA : Hid (Below w2.heap.size w2 (w2.alloc (.cells #[] ThT)).drew) := Lib.hid (((Below.refl _ _).alloc (Nat.le_refl _) _).drew)
              have HO0 : Hid (OwnT (w2.alloc (.cells #[] ThT)).drew w2.heap.size (.slice (some ⟨w2.heap.size, 0, none⟩) 0 0) []) := Lib.hid ⟨rfl, .inr ⟨w2.heap.size, 0, #[], rfl, Nat.le_refl _, heap_alloc_new w2 _, Nat.le_refl _, by unfold maxLen; omega, rfl, rfl⟩⟩
              have HQT := Lib.hid hvo
              clear hv2 hvo hTW
              go_wp2_with fail
              refine wp_region_F (S := fun W => W.cell? ⟨p, 1, none⟩ = some (.slice AL nL cL)) [] (by kernel_rfl) c1 (fun hHeld => ?_)
              refine wpAnyG_take (i := 1) (oi := _) (v := ?_) rfl (by kernel_rfl) (by kernel_rfl) (by kernel_rfl) (by kernel_rfl) (by kernel_rfl) (fun _ _ _ h => h) (Or.inl ⟨by rfl, ?_⟩) (by assumption) ?_
              rotate_left 1
              · intro w hSw
                (try dsimp only at hSw)
                (first | (go_simp; done) | (go_simp; with_reducible rfl))
              (try simp only [Act.put, List.getElem_toArray, List.getElem_cons_succ, List.getElem_cons_zero, List.setIfInBounds_toArray, List.set_cons_zero, List.set_cons_succ])
              refine wpAnyG_take (i := 3) (oi := _) (v := ?_) rfl (by kernel_rfl) (by kernel_rfl) (by kernel_rfl) (by kernel_rfl) (by kernel_rfl) (fun _ _ _ h => h) (Or.inl ⟨by rfl, ?_⟩) (by assumption) ?_
              rotate_left 1
              · intro w hSw
                (try dsimp only at hSw)
                (first | (go_simp; done) | (go_simp; with_reducible rfl))
              (try simp only [Act.put, List.getElem_toArray, List.getElem_cons_succ, List.getElem_cons_zero, List.setIfInBounds_toArray, List.set_cons_zero, List.set_cons_succ])
              refine wpAnyG_take (i := 4) (oi := _) (v := ?_) rfl (by kernel_rfl) (by kernel_rfl) (by kernel_rfl) (by kernel_rfl) (by kernel_rfl) (fun _ _ _ h => h) (Or.inl ⟨by rfl, ?_⟩) (by assumption) ?_
              rotate_left 1
              · intro w hSw
                (try dsimp only at hSw)
                (first | (go_simp; done) | (go_simp; with_reducible rfl))
              (try simp only [Act.put, List.getElem_toArray, List.getElem_cons_succ, List.getElem_cons_zero, List.setIfInBounds_toArray, List.set_cons_zero, List.set_cons_succ])
              refine wpAnyF_ready (rs := [0]) (by kernel_rfl) (by simp) ?_
              refine AllReadyF.cons (o := _) rfl (fun K hK => ?_) AllReadyF.nil
              go_simp
              refine hK.out _ _ (cell_next (W := w2) HC2.out HBA.out) (fun hHeld0 => ?_)
              clear hK K
              (try simp only [Act.put, List.getElem_toArray, List.getElem_cons_succ, List.getElem_cons_zero, List.setIfInBounds_toArray, List.set_cons_zero, List.set_cons_succ])
              refine wpAnyF_ready (rs := [2]) (by kernel_rfl) (by simp) ?_
              refine AllReadyF.cons (o := _) rfl (fun K hK => ?_) AllReadyF.nil
              rw [if_pos (by rfl)]
              refine wp_append_ts (ops := #[]) _ (.tmp 51) (.tmp 52) rfl w2.heap.size (.slice (some ⟨w2.heap.size, 0, none⟩) 0 0) [] rfl HO0.out Aw 0 cw (ws.map En.pr) rfl (HTW2.out.below HBA.out) HC1.out.nil_ (by have := HC1.out.lim; have := HWL.out; first | (simp; omega) | simp) HBA.out.size ?_
              intro va vaw hva1 hva2
              have HA1 := Lib.hid hva1
              have HA2 : Hid (Below w2.heap.size w2 vaw) := Lib.hid (HBA.out.trans (hva2.below HBA.out.size (fun j q => by injection q with q; exact Nat.le_of_eq q)))
              have HLA := Lib.hid hva1.lt
              clear hva1 hva2
              refine hK.out _ _ (cell_next (W := w2) HC2.out HA2.out) (fun hHeld2 => ?_)
              clear hK K
              (try simp only [Act.put, List.getElem_toArray, List.getElem_cons_succ, List.getElem_cons_zero, List.setIfInBounds_toArray, List.set_cons_zero, List.set_cons_succ])
              refine wpAnyF_ready (rs := [5]) (by kernel_rfl) (by simp) ?_
              refine AllReadyF.cons (o := _) rfl (fun K hK => ?_) AllReadyF.nil
              rw [if_pos (by rfl)]
              refine wp_append_ts (ops := #[]) _ (.tmp 53) (.tmp 55) rfl w2.heap.size va ([] ++ ws.map En.pr) rfl HA1.out AL nL cL lL rfl (HTL2.out.below HA2.out) HLN.out (by have := HC1.out.lim; have := HWL.out; first | (simp; omega) | simp) HA2.out.size ?_
              intro vb vbw hvb1 hvb2
              have HB1 := Lib.hid hvb1
              have HB2 : Hid (Below w2.heap.size w2 vbw) := Lib.hid (HA2.out.trans (hvb2.below HA2.out.size (fun j q => (HLA.out j q).1)))
              clear hvb1 hvb2
              refine hK.out _ _ (cell_next (W := w2) HC2.out HB2.out) (fun hHeld5 => ?_)
              clear hK K
              (try simp only [Act.put, List.getElem_toArray, List.getElem_cons_succ, List.getElem_cons_zero, List.setIfInBounds_toArray, List.set_cons_zero, List.set_cons_succ])
              refine wpAnyF_ready (rs := [6]) (by kernel_rfl) (by simp) ?_
              refine AllReadyF.cons (o := _) rfl (fun K hK => ?_) AllReadyF.nil
              go_simp
              refine hK.out _ _ hHeld5 (fun hHeld6 => ?_)
              clear hK K
              (try simp only [Act.put, List.getElem_toArray, List.getElem_cons_succ, List.getElem_cons_zero, List.setIfInBounds_toArray, List.set_cons_zero, List.set_cons_succ])
              refine wpAnyF_done (by kernel_rfl) ?_ _
              obtain ⟨A9, c9, e9, hts9, hA9⟩ := HB1.out.ts
              have HCN : Hid (([] ++ ws.map En.pr ++ lL).length = (ws ++ ents t lL).length ∧ PlC w w.heap.size (i + 1) (pushN es t lL) (ws ++ ents t lL) (t + nL) v2 A9 c9 vbw) := Lib.hid (by
                obtain ⟨q1, q2⟩ := HC1.out.qi.push t HC1.out.tt lL
                have hlL := HTL.out.len
                have he : [] ++ ws.map En.pr ++ lL = (ws ++ ents t lL).map En.pr := by rw [List.map_append, ents_pr]; rfl
                have hel : (ents t lL).length = lL.length := by have := congrArg List.length (ents_pr lL t); simpa using this
                have ho := HB1.out
                rw [he, e9] at ho
                have q3 : ∀ e ∈ ws ++ ents t lL, e.t < t + nL := fun e he => by have := q2 e he; rw [hlL] at this; exact this
                refine PlC.fresh q1 q3 (HV2.out.next HB2.out) ho (fun j q => ?_) (by have := HC1.out.lim; rw [List.length_append, hel, hlL]; omega) (HBW2.out.trans (HB2.out.mono HBW2.out.size)) HC1.out.gb
                rcases q with q | q
                · rw [q]; exact HV2.out.dev.lt
                · exact (HV2.out.own.lt j q).2)
              subst e9
              rw [HCN.out.1]
              have HCN := Lib.hid HCN.out.2
              have HLQ := Lib.hid (qlen_any w.heap.size (t + nL) v2 _ vbw HCN.out.qu)
              rw [HCN.out.len] at HLQ
              obtain ⟨nn, hnn⟩ : ∃ nn, (ws ++ ents t lL).length = nn := ⟨_, rfl⟩
              have HNN := Lib.hid hnn
              rw [hnn] at HLQ ⊢
              clear hHeld hHeld0 hHeld2 hHeld5 hHeld6 c1 hnn hts9 hA9
              go_wp2_with fail
              refine HLQ.out.mono ?_
              rintro e w9 ⟨rfl, rfl⟩
              go_wp2
              go_roundw
              case rel => exact ⟨i + 1, _, _, _, v2, A9, c9, by go_num, by rw [HNN.out], by omega, by omega, HCN.out⟩
              case measure => simp [intOf]; omega
            · have hd0 : (K == 0) = false := by rw [beq_eq_false_iff_ne]; exact hk0
              by_cases hk1 : K = 1
              · subst hk1
                have HPU := Lib.hid (push_any w.heap.size t nL cL AL v es lL _ HC1.out.qu HTL.out (fun h0 ad had => ⟨fun e => by have := HLB.out h0 ad had; have := HC1.out.gb; omega, fun e => by have := HLB.out h0 ad had; have := (HC1.out.qu.own.lt _ e).1; have := HC1.out.gb; omega⟩) (by have := HC1.out.len; have := HC1.out.lim; omega) (by have := HC1.out.lim; omega))
                go_wp2_with fail
                rw [← HW1.out]
                (try rw [← HP8X.out])
                (try rw [← HPX.out])
                refine HPU.out.mono ?_
                rintro e w2 ⟨rfl, hq2⟩
                have HPA : Hid (Turns (fun j => j = w.heap.size ∨ v.ownBlock = some j) W1 w2) := Lib.hid hq2.turns
                obtain ⟨_, v2, hv2, hvo⟩ := hq2
                have HV2 := Lib.hid hv2
                have HBW2 : Hid (Below w.heap.size w w2) := Lib.hid (HC1.out.below.trans (HPA.out.below HC1.out.below.size (fun j q => q.elim (fun e => by have := HC1.out.gb; omega) (fun e => by have := (HC1.out.qu.own.lt j e).1; have := HC1.out.gb; omega))))
                have hTW := HC1.out.ts
                have HTW2 : Hid (TS w2 Aw 0 cw (ws.map En.pr)) := Lib.hid (by
                  rcases Nat.eq_zero_or_pos 0 with h0 | h0
                  · have h1 := HC1.out.ts
                    rw [HWL.out, h0] at h1
                    rw [h0]
                    exact ⟨h1.len, h1.cap, h1.capm, fun q => by omega⟩
                  · have h1 := HC1.out.ts.turns HPA.out (fun ad had q => by
                      have h2 := HC1.out.apart (by rw [HWL.out]; exact h0) ad had
                      exact q.elim h2.1 h2.2)
                    rwa [HWL.out] at h1)
                have HTL2 : Hid (TS w2 AL nL cL lL) := Lib.hid (by
                  rcases Nat.eq_zero_or_pos nL with h0 | h0
                  · have h1 := HTL.out
                    rw [h0] at h1 ⊢
                    exact ⟨h1.len, h1.cap, h1.capm, fun q => by omega⟩
                  · exact HTL.out.turns HPA.out (fun ad had q => by
                      have h1 := HLB.out h0 ad had
                      have h2 := HC1.out.gb
                      exact q.elim (fun e => by omega) (fun e => by have := (HC1.out.qu.own.lt _ e).1; omega)))
                have c1 : w2.cell? ⟨p, 1, none⟩ = some (.slice AL nL cL) := (World.cell?_of_block (a := ⟨p, 1, none⟩) (HPA.out.block p HPW.out (fun q => HPN.out q))).trans HP1.out
                have HC2 := Lib.hid c1
                have HS2 : Hid (p < w2.heap.size) := Lib.hid (Nat.lt_of_lt_of_le HPW.out HPA.out.size)
                have HBA : Hid (Below w2.heap.size w2 (w2.alloc (.cells #[] ThT)).drew) := Lib.hid (((Below.refl _ _).alloc (Nat.le_refl _) _).drew)
                have HO0 : Hid (OwnT (w2.alloc (.cells #[] ThT)).drew w2.heap.size (.slice (some ⟨w2.heap.size, 0, none⟩) 0 0) []) := Lib.hid ⟨rfl, .inr ⟨w2.heap.size, 0, #[], rfl, Nat.le_refl _, heap_alloc_new w2 _, Nat.le_refl _, by unfold maxLen; omega, rfl, rfl⟩⟩
                have HQT := Lib.hid hvo
                clear hv2 hvo hTW
                go_wp2_with fail
                refine wp_region_F (S := fun W => W.cell? ⟨p, 1, none⟩ = some (.slice AL nL cL)) [] (by kernel_rfl) c1 (fun hHeld => ?_)
                refine wpAnyG_take (i := 1) (oi := _) (v := ?_) rfl (by kernel_rfl) (by kernel_rfl) (by kernel_rfl) (by kernel_rfl) (by kernel_rfl) (fun _ _ _ h => h) (Or.inl ⟨by rfl, ?_⟩) (by assumption) ?_
                rotate_left 1
                · intro w hSw
                  (try dsimp only at hSw)
                  (first | (go_simp; done) | (go_simp; with_reducible rfl))
                (try simp only [Act.put, List.getElem_toArray, List.getElem_cons_succ, List.getElem_cons_zero, List.setIfInBounds_toArray, List.set_cons_zero, List.set_cons_succ])
                refine wpAnyG_take (i := 3) (oi := _) (v := ?_) rfl (by kernel_rfl) (by kernel_rfl) (by kernel_rfl) (by kernel_rfl) (by kernel_rfl) (fun _ _ _ h => h) (Or.inl ⟨by rfl, ?_⟩) (by assumption) ?_
                rotate_left 1
                · intro w hSw
                  (try dsimp only at hSw)
                  (first | (go_simp; done) | (go_simp; with_reducible rfl))
                (try simp only [Act.put, List.getElem_toArray, List.getElem_cons_succ, List.getElem_cons_zero, List.setIfInBounds_toArray, List.set_cons_zero, List.set_cons_succ])
                refine wpAnyG_take (i := 4) (oi := _) (v := ?_) rfl (by kernel_rfl) (by kernel_rfl) (by kernel_rfl) (by kernel_rfl) (by kernel_rfl) (fun _ _ _ h => h) (Or.inl ⟨by rfl, ?_⟩) (by assumption) ?_
                rotate_left 1
                · intro w hSw
                  (try dsimp only at hSw)
                  (first | (go_simp; done) | (go_simp; with_reducible rfl))
                (try simp only [Act.put, List.getElem_toArray, List.getElem_cons_succ, List.getElem_cons_zero, List.setIfInBounds_toArray, List.set_cons_zero, List.set_cons_succ])
                refine wpAnyF_ready (rs := [0]) (by kernel_rfl) (by simp) ?_
                refine AllReadyF.cons (o := _) rfl (fun K hK => ?_) AllReadyF.nil
                go_simp
                refine hK.out _ _ (cell_next (W := w2) HC2.out HBA.out) (fun hHeld0 => ?_)
                clear hK K
                (try simp only [Act.put, List.getElem_toArray, List.getElem_cons_succ, List.getElem_cons_zero, List.setIfInBounds_toArray, List.set_cons_zero, List.set_cons_succ])
                refine wpAnyF_ready (rs := [2]) (by kernel_rfl) (by simp) ?_
                refine AllReadyF.cons (o := _) rfl (fun K hK => ?_) AllReadyF.nil
                rw [if_pos (by rfl)]
                refine wp_append_ts (ops := #[]) _ (.tmp 51) (.tmp 52) rfl w2.heap.size (.slice (some ⟨w2.heap.size, 0, none⟩) 0 0) [] rfl HO0.out Aw 0 cw (ws.map En.pr) rfl (HTW2.out.below HBA.out) HC1.out.nil_ (by have := HC1.out.lim; have := HWL.out; first | (simp; omega) | simp) HBA.out.size ?_
                intro va vaw hva1 hva2
                have HA1 := Lib.hid hva1
                have HA2 : Hid (Below w2.heap.size w2 vaw) := Lib.hid (HBA.out.trans (hva2.below HBA.out.size (fun j q => by injection q with q; exact Nat.le_of_eq q)))
                have HLA := Lib.hid hva1.lt
                clear hva1 hva2
                refine hK.out _ _ (cell_next (W := w2) HC2.out HA2.out) (fun hHeld2 => ?_)
                clear hK K
                (try simp only [Act.put, List.getElem_toArray, List.getElem_cons_succ, List.getElem_cons_zero, List.setIfInBounds_toArray, List.set_cons_zero, List.set_cons_succ])
                refine wpAnyF_ready (rs := [5]) (by kernel_rfl) (by simp) ?_
                refine AllReadyF.cons (o := _) rfl (fun K hK => ?_) AllReadyF.nil
                rw [if_pos (by rfl)]
                refine wp_append_ts (ops := #[]) _ (.tmp 53) (.tmp 55) rfl w2.heap.size va ([] ++ ws.map En.pr) rfl HA1.out AL nL cL lL rfl (HTL2.out.below HA2.out) HLN.out (by have := HC1.out.lim; have := HWL.out; first | (simp; omega) | simp) HA2.out.size ?_
                intro vb vbw hvb1 hvb2
                have HB1 := Lib.hid hvb1
                have HB2 : Hid (Below w2.heap.size w2 vbw) := Lib.hid (HA2.out.trans (hvb2.below HA2.out.size (fun j q => (HLA.out j q).1)))
                clear hvb1 hvb2
                refine hK.out _ _ (cell_next (W := w2) HC2.out HB2.out) (fun hHeld5 => ?_)
                clear hK K
                (try simp only [Act.put, List.getElem_toArray, List.getElem_cons_succ, List.getElem_cons_zero, List.setIfInBounds_toArray, List.set_cons_zero, List.set_cons_succ])
                refine wpAnyF_ready (rs := [6]) (by kernel_rfl) (by simp) ?_
                refine AllReadyF.cons (o := _) rfl (fun K hK => ?_) AllReadyF.nil
                go_simp
                refine hK.out _ _ hHeld5 (fun hHeld6 => ?_)
                clear hK K
                (try simp only [Act.put, List.getElem_toArray, List.getElem_cons_succ, List.getElem_cons_zero, List.setIfInBounds_toArray, List.set_cons_zero, List.set_cons_succ])
                refine wpAnyF_done (by kernel_rfl) ?_ _
                obtain ⟨A9, c9, e9, hts9, hA9⟩ := HB1.out.ts
                have HCN : Hid (([] ++ ws.map En.pr ++ lL).length = (ws ++ ents t lL).length ∧ PlC w w.heap.size (i + 1) (pushN es t lL) (ws ++ ents t lL) (t + nL) v2 A9 c9 vbw) := Lib.hid (by
                  obtain ⟨q1, q2⟩ := HC1.out.qi.push t HC1.out.tt lL
                  have hlL := HTL.out.len
                  have he : [] ++ ws.map En.pr ++ lL = (ws ++ ents t lL).map En.pr := by rw [List.map_append, ents_pr]; rfl
                  have hel : (ents t lL).length = lL.length := by have := congrArg List.length (ents_pr lL t); simpa using this
                  have ho := HB1.out
                  rw [he, e9] at ho
                  have q3 : ∀ e ∈ ws ++ ents t lL, e.t < t + nL := fun e he => by have := q2 e he; rw [hlL] at this; exact this
                  refine PlC.fresh q1 q3 (HV2.out.next HB2.out) ho (fun j q => ?_) (by have := HC1.out.lim; rw [List.length_append, hel, hlL]; omega) (HBW2.out.trans (HB2.out.mono HBW2.out.size)) HC1.out.gb
                  rcases q with q | q
                  · rw [q]; exact HV2.out.dev.lt
                  · exact (HV2.out.own.lt j q).2)
                subst e9
                rw [HCN.out.1]
                have HCN := Lib.hid HCN.out.2
                have HLQ := Lib.hid (qlen_any w.heap.size (t + nL) v2 _ vbw HCN.out.qu)
                rw [HCN.out.len] at HLQ
                obtain ⟨nn, hnn⟩ : ∃ nn, (ws ++ ents t lL).length = nn := ⟨_, rfl⟩
                have HNN := Lib.hid hnn
                rw [hnn] at HLQ ⊢
                clear hHeld hHeld0 hHeld2 hHeld5 hHeld6 c1 hnn hts9 hA9
                go_wp2_with fail
                refine HLQ.out.mono ?_
                rintro e w9 ⟨rfl, rfl⟩
                go_wp2
                go_roundw
                case rel => exact ⟨i + 1, _, _, _, v2, A9, c9, by go_num, by rw [HNN.out], by omega, by omega, HCN.out⟩
                case measure => simp [intOf]; omega
              · have hd1 : (K == 1) = false := by rw [beq_eq_false_iff_ne]; exact hk1
                by_cases hk2 : K = 2
                · subst hk2
                  have hes : es = [] := List.length_eq_zero_iff.mp (by rw [HC1.out.len, HWL.out])
                  have HPO := Lib.hid (pop_none w.heap.size t v W1 (hes ▸ HC1.out.qu))
                  have hneq := neq_th 0 0
                  go_wp2_with fail
                  rw [← HW1.out]
                  (try rw [← HP8X.out])
                  (try rw [← HPX.out])
                  refine HPO.out.mono ?_
                  rintro e w3 ⟨rfl, hb3⟩
                  have HCN : Hid (PlC w w.heap.size (i + 1) es ws t v Aw cw (w3.alloc (.cells #[.int .i64 0, .int .i64 0] ThT))) := Lib.hid (((HC1.out.next hb3).next ((Below.refl _ _).alloc (Nat.le_refl _) _)).step)
                  have HLQ := Lib.hid (qlen_any w.heap.size t v es _ HCN.out.qu)
                  rw [HCN.out.len, HWL.out] at HLQ
                  have d8 : w3.heap[p8]? = some (.cells #[.int .i64 0, .int .i64 0] ThT) := (hb3.block _ HP8L.out).trans HP8.out
                  have c80 := blk_cell d8 0
                  have c81 := blk_cell d8 1
                  have hp8 : p8 < w3.heap.size := blk_lt d8
                  clear hb3 hes d8
                  go_wp2_with fail
                  refine HLQ.out.mono ?_
                  rintro e w9 ⟨rfl, rfl⟩
                  go_wp2
                  go_roundw
                  case rel => exact ⟨i + 1, es, ws, t, v, Aw, cw, by go_num, by rw [HWL.out], by omega, by omega, HCN.out⟩
                  case measure => simp [intOf]; omega
                · have hd2 : (K == 2) = false := by rw [beq_eq_false_iff_ne]; exact hk2
                  by_cases hk3 : K = 3
                  · subst hk3
                    have hes : es = [] := List.length_eq_zero_iff.mp (by rw [HC1.out.len, HWL.out])
                    have HPO := Lib.hid (peek_none w.heap.size t v W1 (hes ▸ HC1.out.qu))
                    have hneq := neq_th 0 0
                    go_wp2_with fail
                    rw [← HW1.out]
                    (try rw [← HP8X.out])
                    (try rw [← HPX.out])
                    refine HPO.out.mono ?_
                    rintro e w3 ⟨rfl, hb3⟩
                    have HCN : Hid (PlC w w.heap.size (i + 1) es ws t v Aw cw (w3.alloc (.cells #[.int .i64 0, .int .i64 0] ThT))) := Lib.hid (((HC1.out.next hb3).next ((Below.refl _ _).alloc (Nat.le_refl _) _)).step)
                    have HLQ := Lib.hid (qlen_any w.heap.size t v es _ HCN.out.qu)
                    rw [HCN.out.len, HWL.out] at HLQ
                    have d8 : w3.heap[p8]? = some (.cells #[.int .i64 0, .int .i64 0] ThT) := (hb3.block _ HP8L.out).trans HP8.out
                    have c80 := blk_cell d8 0
                    have c81 := blk_cell d8 1
                    have hp8 : p8 < w3.heap.size := blk_lt d8
                    clear hb3 hes d8
                    go_wp2_with fail
                    refine HLQ.out.mono ?_
                    rintro e w9 ⟨rfl, rfl⟩
                    go_wp2
                    go_roundw
                    case rel => exact ⟨i + 1, es, ws, t, v, Aw, cw, by go_num, by rw [HWL.out], by omega, by omega, HCN.out⟩
                    case measure => simp [intOf]; omega
                  · have hd3 : (K == 3) = false := by rw [beq_eq_false_iff_ne]; exact hk3
                    by_cases hk4 : K = 4
                    · subst hk4
                      have HAL := Lib.hid (all_any w.heap.size t v es W1 HC1.out.qu (by have := HC1.out.lim; have := HC1.out.len; omega))
                      go_wp2_with fail
                      rw [← HW1.out]
                      (try rw [← HP8X.out])
                      (try rw [← HPX.out])
                      refine HAL.out.mono ?_
                      rintro e w4 ⟨A4, c4, rfl, hts4, hA4, hq4⟩
                      have HPA : Hid (Turns (fun j => j = w.heap.size ∨ v.ownBlock = some j) W1 w4) := Lib.hid hq4.turns
                      obtain ⟨v4, hv4⟩ := hq4.qu_
                      have HESL : Hid (es.length = 0) := Lib.hid (by rw [HC1.out.len, HWL.out])
                      have HBW4 : Hid (Below w.heap.size w w4) := Lib.hid (HC1.out.below.trans (HPA.out.below HC1.out.below.size (fun j q => q.elim (fun e => by have := HC1.out.gb; omega) (fun e => by have := (HC1.out.qu.own.lt j e).1; have := HC1.out.gb; omega))))
                      obtain ⟨P, hP⟩ : ∃ P, popsL es.length es = P := ⟨_, rfl⟩
                      have HPE := Lib.hid hP
                      rw [hP] at hts4
                      rw [HESL.out] at hts4 ⊢
                      have hc4 := hts4.cap
                      have hc5 := hts4.capm
                      have HST2 : Hid (PaR w w.heap.size t v4 es A4 0 c4 P (.slice Aw 0 cw) (.int .i64 0) w4) := Lib.hid (by
                        refine ⟨0, ws, Aw, cw, rfl, by rw [HWL.out], by rw [HWL.out, Nat.zero_add], HC1.out.qi, ?_, HC1.out.nil_, hts4, HBW4.out, hv4⟩
                        rcases Nat.eq_zero_or_pos ws.length with h0 | h0
                        · have h1 := HC1.out.ts
                          exact ⟨h1.len, h1.cap, h1.capm, fun q => by omega⟩
                        · exact HC1.out.ts.turns HPA.out (fun ad had q => by
                            have h2 := HC1.out.apart h0 ad had
                            exact q.elim h2.1 h2.2))
                      have hnwm : 0 ≤ 1000000000 := by have := HC1.out.lim; have := HWL.out; omega
                      clear hts4 hA4 hq4 hv4 hP
                      go_wp2_with fail
                      go_loopw [4, 98] (fun wv iv W => PaR w w.heap.size t v4 es A4 0 c4 P wv iv W) (fun _ iv _ => 0 - (intOf iv).toNat)
                      case atStart => exact HST2.out
                      case round =>
                        obtain ⟨k, ws2, A2, c2, rfl, rfl, hkm, hqi, htw, hn2, ht4, hb, hv⟩ := hrel
                        have HQ := Lib.hid hqi
                        have HTW := Lib.hid htw
                        have HT4 := Lib.hid ht4
                        have HB := Lib.hid hb
                        have HV := Lib.hid hv
                        have HN2 := Lib.hid hn2
                        have hwc := htw.cap
                        have hwm := htw.capm
                        obtain ⟨n2, hnw2⟩ : ∃ n2, ws2.length = n2 := ⟨_, rfl⟩
                        have HNWL := Lib.hid hnw2
                        rw [hnw2] at HTW hkm hwc ⊢
                        clear hqi htw ht4 hb hnw2 hv hn2 HST2
                        have hk00 : k = 0 := by omega
                        subst hk00
                        · have hn20 : n2 = 0 := by omega
                          subst hn20
                          have HCN : Hid (PlC w w.heap.size (i + 1) [] [] t v4 A2 c2 wr) := Lib.hid (by
                            have h1 := HTW.out
                            exact ⟨QI.nil, (fun _ h => by cases h), HV.out, ⟨rfl, h1.cap, h1.capm, (fun q => by simp at q)⟩, HN2.out, (fun q => by simp at q), (by have := HC1.out.lim; simp; omega), HB.out, HC1.out.gb⟩)
                          have HLQ := Lib.hid (qlen_any w.heap.size t v4 [] _ HCN.out.qu)
                          go_wp2_with fail
                          refine HLQ.out.mono ?_
                          rintro e w9 ⟨rfl, rfl⟩
                          go_wp2
                          go_roundw
                          case rel => exact ⟨i + 1, [], [], t, v4, A2, c2, by go_num, rfl, by omega, by omega, HCN.out⟩
                          case measure => simp [intOf]; omega
                    · have hd4 : (K == 4) = false := by rw [beq_eq_false_iff_ne]; exact hk4
                      have HCN : Hid (PlC w w.heap.size (i + 1) es ws t v Aw cw W1) := Lib.hid (HC1.out.step)
                      have HLQ := Lib.hid (qlen_any w.heap.size t v es _ HCN.out.qu)
                      rw [HCN.out.len, HWL.out] at HLQ
                      go_wp2_with fail
                      rw [← HW1.out]
                      (try rw [← HP8X.out])
                      (try rw [← HPX.out])
                      refine HLQ.out.mono ?_
                      rintro e w9 ⟨rfl, rfl⟩
                      go_wp2
                      go_roundw
                      case rel => exact ⟨i + 1, es, ws, t, v, Aw, cw, by go_num, by rw [HWL.out], by omega, by omega, HCN.out⟩
                      case measure => simp [intOf]; omega
          · obtain ⟨a, ha, hfl⟩ := leastF_fl (ws.map En.pr) (by rw [List.length_map, HWL.out]; exact hnw)
            rw [List.length_map, HWL.out] at ha
            rw [ha] at HLE
            have hla := LeastAt.of_fl HC.out.qi.sorted hfl
            have haw : a < nw := by have := hla.1; rwa [HWL.out] at this
            obtain ⟨x, hx⟩ : ∃ x, ea ws a = x := ⟨_, rfl⟩
            have hwa : (ws.map En.pr).getD a (0, 0) = x.pr := by rw [getD_pr ws a hla.1, hx]
            have HLA := Lib.hid hla
            have HEA := Lib.hid hx
            have HWA := Lib.hid hwa
            clear ha hfl hla hx hwa
            go_wp2_with fail
            refine HLE.out.mono ?_
            rintro e w1 ⟨rfl, hb1⟩
            have hsz1 : wr.heap.size < w1.heap.size := by have := hb1.size; simp at this; omega
            have d0 : w1.heap[wr.heap.size]? = some (.cells #[.int .i64 K, .slice AL nL cL] 49) := (hb1.block _ (by simp)).trans HP0.out
            obtain ⟨W1, hW1⟩ : ∃ W1, W1 = w1.alloc (.cells #[.int .i64 x.n, .int .i64 x.m] ThT) := ⟨_, rfl⟩
            obtain ⟨p, hp⟩ : ∃ p, p = wr.heap.size := ⟨_, rfl⟩
            obtain ⟨p8, hp8e⟩ : ∃ p8, p8 = w1.heap.size := ⟨_, rfl⟩
            have hal8 := heap_alloc_new w1 (.cells #[.int .i64 x.n, .int .i64 x.m] ThT)
            have hbW : Below w1.heap.size w1 (w1.alloc (.cells #[.int .i64 x.n, .int .i64 x.m] ThT)) := (Below.refl _ _).alloc (Nat.le_refl _) _
            have d1 : (w1.alloc (.cells #[.int .i64 x.n, .int .i64 x.m] ThT)).heap[wr.heap.size]? = some (.cells #[.int .i64 K, .slice AL nL cL] 49) := (hbW.block _ hsz1).trans d0
            have HC1 := Lib.hid ((HC0.out.next hb1).next hbW)
            have HTL := Lib.hid ((HTL0.out.below hb1).below hbW)
            have hgw := HC.out.qu.dev.lt
            have hvw := HC.out.qu.own.lt
            have HPN : Hid (¬ (wr.heap.size = w.heap.size ∨ v.ownBlock = some wr.heap.size)) := Lib.hid (fun q => q.elim (fun e => by omega) (fun e => by have := (hvw _ e).2; omega))
            have HP8N : Hid (¬ (w1.heap.size = w.heap.size ∨ v.ownBlock = some w1.heap.size)) := Lib.hid (fun q => q.elim (fun e => by omega) (fun e => by have := (hvw _ e).2; omega))
            have HP8L : Hid (w1.heap.size < (w1.alloc (.cells #[.int .i64 x.n, .int .i64 x.m] ThT)).heap.size) := Lib.hid (by simp)
            have HPW : Hid (wr.heap.size < (w1.alloc (.cells #[.int .i64 x.n, .int .i64 x.m] ThT)).heap.size) := Lib.hid (by simp; omega)
            have HP8 := Lib.hid hal8
            have HP1 : Hid ((w1.alloc (.cells #[.int .i64 x.n, .int .i64 x.m] ThT)).cell? ⟨wr.heap.size, 1, none⟩ = some (.slice AL nL cL)) := Lib.hid (blk_cell d1 1)
            obtain ⟨bw, ow, ew, hbw, hcw⟩ := ((HC0.out.next hb1).ts).at_ (by rw [HWL.out]; exact hnw)
            have ca := (hcw a (by rw [HWL.out]; exact haw)).1
            have cb := (hcw a (by rw [HWL.out]; exact haw)).2
            rw [HWA.out] at ca cb
            change w1.cell? ⟨bw, ow + a * 2, none⟩ = some (.int .i64 x.n) at ca
            change w1.cell? ⟨bw, ow + a * 2 + 1, none⟩ = some (.int .i64 x.m) at cb
            have hbw2 : bw < w1.heap.size := hbw
            have hga : decide ((0 : Int) ≤ (a : Int)) = true := decide_eq_true (by omega)
            subst ew
            clear hcw hbw
            have c60 := blk_cell d0 0
            have c61 := blk_cell d0 1
            clear hal8 hbW d1 d0 hb1 hgw hvw
            rw [← hW1] at HC1 HTL HP8L HPW HP8 HP1
            rw [← hp8e] at HP8N HP8L HP8
            rw [← hp] at HPN HPW HP1
            have HW1 := Lib.hid hW1
            have HPX := Lib.hid hp
            have HP8X := Lib.hid hp8e
            clear hW1 hp8e hp
            by_cases hk0 : K = 0
            · subst hk0
              have HPU := Lib.hid (push_any w.heap.size t nL cL AL v es lL _ HC1.out.qu HTL.out (fun h0 ad had => ⟨fun e => by have := HLB.out h0 ad had; have := HC1.out.gb; omega, fun e => by have := HLB.out h0 ad had; have := (HC1.out.qu.own.lt _ e).1; have := HC1.out.gb; omega⟩) (by have := HC1.out.len; have := HC1.out.lim; omega) (by have := HC1.out.lim; omega))
              go_wp2_with fail
              rw [← HW1.out]
              (try rw [← HP8X.out])
              (try rw [← HPX.out])
              refine HPU.out.mono ?_
              rintro e w2 ⟨rfl, hq2⟩
              have HPA : Hid (Turns (fun j => j = w.heap.size ∨ v.ownBlock = some j) W1 w2) := Lib.hid hq2.turns
              obtain ⟨_, v2, hv2, hvo⟩ := hq2
              have HV2 := Lib.hid hv2
              have HBW2 : Hid (Below w.heap.size w w2) := Lib.hid (HC1.out.below.trans (HPA.out.below HC1.out.below.size (fun j q => q.elim (fun e => by have := HC1.out.gb; omega) (fun e => by have := (HC1.out.qu.own.lt j e).1; have := HC1.out.gb; omega))))
              have hTW := HC1.out.ts
              have HTW2 : Hid (TS w2 (some ⟨bw, ow, none⟩) nw cw (ws.map En.pr)) := Lib.hid (by
                rcases Nat.eq_zero_or_pos nw with h0 | h0
                · have h1 := HC1.out.ts
                  rw [HWL.out, h0] at h1
                  rw [h0]
                  exact ⟨h1.len, h1.cap, h1.capm, fun q => by omega⟩
                · have h1 := HC1.out.ts.turns HPA.out (fun ad had q => by
                    have h2 := HC1.out.apart (by rw [HWL.out]; exact h0) ad had
                    exact q.elim h2.1 h2.2)
                  rwa [HWL.out] at h1)
              have HTL2 : Hid (TS w2 AL nL cL lL) := Lib.hid (by
                rcases Nat.eq_zero_or_pos nL with h0 | h0
                · have h1 := HTL.out
                  rw [h0] at h1 ⊢
                  exact ⟨h1.len, h1.cap, h1.capm, fun q => by omega⟩
                · exact HTL.out.turns HPA.out (fun ad had q => by
                    have h1 := HLB.out h0 ad had
                    have h2 := HC1.out.gb
                    exact q.elim (fun e => by omega) (fun e => by have := (HC1.out.qu.own.lt _ e).1; omega)))
              have c1 : w2.cell? ⟨p, 1, none⟩ = some (.slice AL nL cL) := (World.cell?_of_block (a := ⟨p, 1, none⟩) (HPA.out.block p HPW.out (fun q => HPN.out q))).trans HP1.out
              have HC2 := Lib.hid c1
              have HS2 : Hid (p < w2.heap.size) := Lib.hid (Nat.lt_of_lt_of_le HPW.out HPA.out.size)
              have HBA : Hid (Below w2.heap.size w2 (w2.alloc (.cells #[] ThT)).drew) := Lib.hid (((Below.refl _ _).alloc (Nat.le_refl _) _).drew)
              have HO0 : Hid (OwnT (w2.alloc (.cells #[] ThT)).drew w2.heap.size (.slice (some ⟨w2.heap.size, 0, none⟩) 0 0) []) := Lib.hid ⟨rfl, .inr ⟨w2.heap.size, 0, #[], rfl, Nat.le_refl _, heap_alloc_new w2 _, Nat.le_refl _, by unfold maxLen; omega, rfl, rfl⟩⟩
              have HQT := Lib.hid hvo
              clear hv2 hvo hTW
              go_wp2_with fail
              refine wp_region_F (S := fun W => W.cell? ⟨p, 1, none⟩ = some (.slice AL nL cL)) [] (by kernel_rfl) c1 (fun hHeld => ?_)
              refine wpAnyG_take (i := 1) (oi := _) (v := ?_) rfl (by kernel_rfl) (by kernel_rfl) (by kernel_rfl) (by kernel_rfl) (by kernel_rfl) (fun _ _ _ h => h) (Or.inl ⟨by rfl, ?_⟩) (by assumption) ?_
              rotate_left 1
              · intro w hSw
                (try dsimp only at hSw)
                (first | (go_simp; done) | (go_simp; with_reducible rfl))
              (try simp only [Act.put, List.getElem_toArray, List.getElem_cons_succ, List.getElem_cons_zero, List.setIfInBounds_toArray, List.set_cons_zero, List.set_cons_succ])
              refine wpAnyG_take (i := 3) (oi := _) (v := ?_) rfl (by kernel_rfl) (by kernel_rfl) (by kernel_rfl) (by kernel_rfl) (by kernel_rfl) (fun _ _ _ h => h) (Or.inl ⟨by rfl, ?_⟩) (by assumption) ?_
              rotate_left 1
              · intro w hSw
                (try dsimp only at hSw)
                (first | (go_simp; done) | (go_simp; with_reducible rfl))
              (try simp only [Act.put, List.getElem_toArray, List.getElem_cons_succ, List.getElem_cons_zero, List.setIfInBounds_toArray, List.set_cons_zero, List.set_cons_succ])
              refine wpAnyG_take (i := 4) (oi := _) (v := ?_) rfl (by kernel_rfl) (by kernel_rfl) (by kernel_rfl) (by kernel_rfl) (by kernel_rfl) (fun _ _ _ h => h) (Or.inl ⟨by rfl, ?_⟩) (by assumption) ?_
              rotate_left 1
              · intro w hSw
                (try dsimp only at hSw)
                (first | (go_simp; done) | (go_simp; with_reducible rfl))
              (try simp only [Act.put, List.getElem_toArray, List.getElem_cons_succ, List.getElem_cons_zero, List.setIfInBounds_toArray, List.set_cons_zero, List.set_cons_succ])
              refine wpAnyF_ready (rs := [0]) (by kernel_rfl) (by simp) ?_
              refine AllReadyF.cons (o := _) rfl (fun K hK => ?_) AllReadyF.nil
              go_simp
              refine hK.out _ _ (cell_next (W := w2) HC2.out HBA.out) (fun hHeld0 => ?_)
              clear hK K
              (try simp only [Act.put, List.getElem_toArray, List.getElem_cons_succ, List.getElem_cons_zero, List.setIfInBounds_toArray, List.set_cons_zero, List.set_cons_succ])
              refine wpAnyF_ready (rs := [2]) (by kernel_rfl) (by simp) ?_
              refine AllReadyF.cons (o := _) rfl (fun K hK => ?_) AllReadyF.nil
              rw [if_pos (by rfl)]
              refine wp_append_ts (ops := #[]) _ (.tmp 51) (.tmp 52) rfl w2.heap.size (.slice (some ⟨w2.heap.size, 0, none⟩) 0 0) [] rfl HO0.out (some ⟨bw, ow, none⟩) nw cw (ws.map En.pr) rfl (HTW2.out.below HBA.out) HC1.out.nil_ (by have := HC1.out.lim; have := HWL.out; first | (simp; omega) | simp) HBA.out.size ?_
              intro va vaw hva1 hva2
              have HA1 := Lib.hid hva1
              have HA2 : Hid (Below w2.heap.size w2 vaw) := Lib.hid (HBA.out.trans (hva2.below HBA.out.size (fun j q => by injection q with q; exact Nat.le_of_eq q)))
              have HLA := Lib.hid hva1.lt
              clear hva1 hva2
              refine hK.out _ _ (cell_next (W := w2) HC2.out HA2.out) (fun hHeld2 => ?_)
              clear hK K
              (try simp only [Act.put, List.getElem_toArray, List.getElem_cons_succ, List.getElem_cons_zero, List.setIfInBounds_toArray, List.set_cons_zero, List.set_cons_succ])
              refine wpAnyF_ready (rs := [5]) (by kernel_rfl) (by simp) ?_
              refine AllReadyF.cons (o := _) rfl (fun K hK => ?_) AllReadyF.nil
              rw [if_pos (by rfl)]
              refine wp_append_ts (ops := #[]) _ (.tmp 53) (.tmp 55) rfl w2.heap.size va ([] ++ ws.map En.pr) rfl HA1.out AL nL cL lL rfl (HTL2.out.below HA2.out) HLN.out (by have := HC1.out.lim; have := HWL.out; first | (simp; omega) | simp) HA2.out.size ?_
              intro vb vbw hvb1 hvb2
              have HB1 := Lib.hid hvb1
              have HB2 : Hid (Below w2.heap.size w2 vbw) := Lib.hid (HA2.out.trans (hvb2.below HA2.out.size (fun j q => (HLA.out j q).1)))
              clear hvb1 hvb2
              refine hK.out _ _ (cell_next (W := w2) HC2.out HB2.out) (fun hHeld5 => ?_)
              clear hK K
              (try simp only [Act.put, List.getElem_toArray, List.getElem_cons_succ, List.getElem_cons_zero, List.setIfInBounds_toArray, List.set_cons_zero, List.set_cons_succ])
              refine wpAnyF_ready (rs := [6]) (by kernel_rfl) (by simp) ?_
              refine AllReadyF.cons (o := _) rfl (fun K hK => ?_) AllReadyF.nil
              go_simp
              refine hK.out _ _ hHeld5 (fun hHeld6 => ?_)
              clear hK K
              (try simp only [Act.put, List.getElem_toArray, List.getElem_cons_succ, List.getElem_cons_zero, List.setIfInBounds_toArray, List.set_cons_zero, List.set_cons_succ])
              refine wpAnyF_done (by kernel_rfl) ?_ _
              obtain ⟨A9, c9, e9, hts9, hA9⟩ := HB1.out.ts
              have HCN : Hid (([] ++ ws.map En.pr ++ lL).length = (ws ++ ents t lL).length ∧ PlC w w.heap.size (i + 1) (pushN es t lL) (ws ++ ents t lL) (t + nL) v2 A9 c9 vbw) := Lib.hid (by
                obtain ⟨q1, q2⟩ := HC1.out.qi.push t HC1.out.tt lL
                have hlL := HTL.out.len
                have he : [] ++ ws.map En.pr ++ lL = (ws ++ ents t lL).map En.pr := by rw [List.map_append, ents_pr]; rfl
                have hel : (ents t lL).length = lL.length := by have := congrArg List.length (ents_pr lL t); simpa using this
                have ho := HB1.out
                rw [he, e9] at ho
                have q3 : ∀ e ∈ ws ++ ents t lL, e.t < t + nL := fun e he => by have := q2 e he; rw [hlL] at this; exact this
                refine PlC.fresh q1 q3 (HV2.out.next HB2.out) ho (fun j q => ?_) (by have := HC1.out.lim; rw [List.length_append, hel, hlL]; omega) (HBW2.out.trans (HB2.out.mono HBW2.out.size)) HC1.out.gb
                rcases q with q | q
                · rw [q]; exact HV2.out.dev.lt
                · exact (HV2.out.own.lt j q).2)
              subst e9
              rw [HCN.out.1]
              have HCN := Lib.hid HCN.out.2
              have HLQ := Lib.hid (qlen_any w.heap.size (t + nL) v2 _ vbw HCN.out.qu)
              rw [HCN.out.len] at HLQ
              obtain ⟨nn, hnn⟩ : ∃ nn, (ws ++ ents t lL).length = nn := ⟨_, rfl⟩
              have HNN := Lib.hid hnn
              rw [hnn] at HLQ ⊢
              clear hHeld hHeld0 hHeld2 hHeld5 hHeld6 c1 hnn hts9 hA9
              go_wp2_with fail
              refine HLQ.out.mono ?_
              rintro e w9 ⟨rfl, rfl⟩
              go_wp2
              go_roundw
              case rel => exact ⟨i + 1, _, _, _, v2, A9, c9, by go_num, by rw [HNN.out], by omega, by omega, HCN.out⟩
              case measure => simp [intOf]; omega
            · have hd0 : (K == 0) = false := by rw [beq_eq_false_iff_ne]; exact hk0
              by_cases hk1 : K = 1
              · subst hk1
                have HPU := Lib.hid (push_any w.heap.size t nL cL AL v es lL _ HC1.out.qu HTL.out (fun h0 ad had => ⟨fun e => by have := HLB.out h0 ad had; have := HC1.out.gb; omega, fun e => by have := HLB.out h0 ad had; have := (HC1.out.qu.own.lt _ e).1; have := HC1.out.gb; omega⟩) (by have := HC1.out.len; have := HC1.out.lim; omega) (by have := HC1.out.lim; omega))
                go_wp2_with fail
                rw [← HW1.out]
                (try rw [← HP8X.out])
                (try rw [← HPX.out])
                refine HPU.out.mono ?_
                rintro e w2 ⟨rfl, hq2⟩
                have HPA : Hid (Turns (fun j => j = w.heap.size ∨ v.ownBlock = some j) W1 w2) := Lib.hid hq2.turns
                obtain ⟨_, v2, hv2, hvo⟩ := hq2
                have HV2 := Lib.hid hv2
                have HBW2 : Hid (Below w.heap.size w w2) := Lib.hid (HC1.out.below.trans (HPA.out.below HC1.out.below.size (fun j q => q.elim (fun e => by have := HC1.out.gb; omega) (fun e => by have := (HC1.out.qu.own.lt j e).1; have := HC1.out.gb; omega))))
                have hTW := HC1.out.ts
                have HTW2 : Hid (TS w2 (some ⟨bw, ow, none⟩) nw cw (ws.map En.pr)) := Lib.hid (by
                  rcases Nat.eq_zero_or_pos nw with h0 | h0
                  · have h1 := HC1.out.ts
                    rw [HWL.out, h0] at h1
                    rw [h0]
                    exact ⟨h1.len, h1.cap, h1.capm, fun q => by omega⟩
                  · have h1 := HC1.out.ts.turns HPA.out (fun ad had q => by
                      have h2 := HC1.out.apart (by rw [HWL.out]; exact h0) ad had
                      exact q.elim h2.1 h2.2)
                    rwa [HWL.out] at h1)
                have HTL2 : Hid (TS w2 AL nL cL lL) := Lib.hid (by
                  rcases Nat.eq_zero_or_pos nL with h0 | h0
                  · have h1 := HTL.out
                    rw [h0] at h1 ⊢
                    exact ⟨h1.len, h1.cap, h1.capm, fun q => by omega⟩
                  · exact HTL.out.turns HPA.out (fun ad had q => by
                      have h1 := HLB.out h0 ad had
                      have h2 := HC1.out.gb
                      exact q.elim (fun e => by omega) (fun e => by have := (HC1.out.qu.own.lt _ e).1; omega)))
                have c1 : w2.cell? ⟨p, 1, none⟩ = some (.slice AL nL cL) := (World.cell?_of_block (a := ⟨p, 1, none⟩) (HPA.out.block p HPW.out (fun q => HPN.out q))).trans HP1.out
                have HC2 := Lib.hid c1
                have HS2 : Hid (p < w2.heap.size) := Lib.hid (Nat.lt_of_lt_of_le HPW.out HPA.out.size)
                have HBA : Hid (Below w2.heap.size w2 (w2.alloc (.cells #[] ThT)).drew) := Lib.hid (((Below.refl _ _).alloc (Nat.le_refl _) _).drew)
                have HO0 : Hid (OwnT (w2.alloc (.cells #[] ThT)).drew w2.heap.size (.slice (some ⟨w2.heap.size, 0, none⟩) 0 0) []) := Lib.hid ⟨rfl, .inr ⟨w2.heap.size, 0, #[], rfl, Nat.le_refl _, heap_alloc_new w2 _, Nat.le_refl _, by unfold maxLen; omega, rfl, rfl⟩⟩
                have HQT := Lib.hid hvo
                clear hv2 hvo hTW
                go_wp2_with fail
                refine wp_region_F (S := fun W => W.cell? ⟨p, 1, none⟩ = some (.slice AL nL cL)) [] (by kernel_rfl) c1 (fun hHeld => ?_)
                refine wpAnyG_take (i := 1) (oi := _) (v := ?_) rfl (by kernel_rfl) (by kernel_rfl) (by kernel_rfl) (by kernel_rfl) (by kernel_rfl) (fun _ _ _ h => h) (Or.inl ⟨by rfl, ?_⟩) (by assumption) ?_
                rotate_left 1
                · intro w hSw
                  (try dsimp only at hSw)
                  (first | (go_simp; done) | (go_simp; with_reducible rfl))
                (try simp only [Act.put, List.getElem_toArray, List.getElem_cons_succ, List.getElem_cons_zero, List.setIfInBounds_toArray, List.set_cons_zero, List.set_cons_succ])
                refine wpAnyG_take (i := 3) (oi := _) (v := ?_) rfl (by kernel_rfl) (by kernel_rfl) (by kernel_rfl) (by kernel_rfl) (by kernel_rfl) (fun _ _ _ h => h) (Or.inl ⟨by rfl, ?_⟩) (by assumption) ?_
                rotate_left 1
                · intro w hSw
                  (try dsimp only at hSw)
                  (first | (go_simp; done) | (go_simp; with_reducible rfl))
                (try simp only [Act.put, List.getElem_toArray, List.getElem_cons_succ, List.getElem_cons_zero, List.setIfInBounds_toArray, List.set_cons_zero, List.set_cons_succ])
                refine wpAnyG_take (i := 4) (oi := _) (v := ?_) rfl (by kernel_rfl) (by kernel_rfl) (by kernel_rfl) (by kernel_rfl) (by kernel_rfl) (fun _ _ _ h => h) (Or.inl ⟨by rfl, ?_⟩) (by assumption) ?_
                rotate_left 1
                · intro w hSw
                  (try dsimp only at hSw)
                  (first | (go_simp; done) | (go_simp; with_reducible rfl))
                (try simp only [Act.put, List.getElem_toArray, List.getElem_cons_succ, List.getElem_cons_zero, List.setIfInBounds_toArray, List.set_cons_zero, List.set_cons_succ])
                refine wpAnyF_ready (rs := [0]) (by kernel_rfl) (by simp) ?_
                refine AllReadyF.cons (o := _) rfl (fun K hK => ?_) AllReadyF.nil
                go_simp
                refine hK.out _ _ (cell_next (W := w2) HC2.out HBA.out) (fun hHeld0 => ?_)
                clear hK K
                (try simp only [Act.put, List.getElem_toArray, List.getElem_cons_succ, List.getElem_cons_zero, List.setIfInBounds_toArray, List.set_cons_zero, List.set_cons_succ])
                refine wpAnyF_ready (rs := [2]) (by kernel_rfl) (by simp) ?_
                refine AllReadyF.cons (o := _) rfl (fun K hK => ?_) AllReadyF.nil
                rw [if_pos (by rfl)]
                refine wp_append_ts (ops := #[]) _ (.tmp 51) (.tmp 52) rfl w2.heap.size (.slice (some ⟨w2.heap.size, 0, none⟩) 0 0) [] rfl HO0.out (some ⟨bw, ow, none⟩) nw cw (ws.map En.pr) rfl (HTW2.out.below HBA.out) HC1.out.nil_ (by have := HC1.out.lim; have := HWL.out; first | (simp; omega) | simp) HBA.out.size ?_
                intro va vaw hva1 hva2
                have HA1 := Lib.hid hva1
                have HA2 : Hid (Below w2.heap.size w2 vaw) := Lib.hid (HBA.out.trans (hva2.below HBA.out.size (fun j q => by injection q with q; exact Nat.le_of_eq q)))
                have HLA := Lib.hid hva1.lt
                clear hva1 hva2
                refine hK.out _ _ (cell_next (W := w2) HC2.out HA2.out) (fun hHeld2 => ?_)
                clear hK K
                (try simp only [Act.put, List.getElem_toArray, List.getElem_cons_succ, List.getElem_cons_zero, List.setIfInBounds_toArray, List.set_cons_zero, List.set_cons_succ])
                refine wpAnyF_ready (rs := [5]) (by kernel_rfl) (by simp) ?_
                refine AllReadyF.cons (o := _) rfl (fun K hK => ?_) AllReadyF.nil
                rw [if_pos (by rfl)]
                refine wp_append_ts (ops := #[]) _ (.tmp 53) (.tmp 55) rfl w2.heap.size va ([] ++ ws.map En.pr) rfl HA1.out AL nL cL lL rfl (HTL2.out.below HA2.out) HLN.out (by have := HC1.out.lim; have := HWL.out; first | (simp; omega) | simp) HA2.out.size ?_
                intro vb vbw hvb1 hvb2
                have HB1 := Lib.hid hvb1
                have HB2 : Hid (Below w2.heap.size w2 vbw) := Lib.hid (HA2.out.trans (hvb2.below HA2.out.size (fun j q => (HLA.out j q).1)))
                clear hvb1 hvb2
                refine hK.out _ _ (cell_next (W := w2) HC2.out HB2.out) (fun hHeld5 => ?_)
                clear hK K
                (try simp only [Act.put, List.getElem_toArray, List.getElem_cons_succ, List.getElem_cons_zero, List.setIfInBounds_toArray, List.set_cons_zero, List.set_cons_succ])
                refine wpAnyF_ready (rs := [6]) (by kernel_rfl) (by simp) ?_
                refine AllReadyF.cons (o := _) rfl (fun K hK => ?_) AllReadyF.nil
                go_simp
                refine hK.out _ _ hHeld5 (fun hHeld6 => ?_)
                clear hK K
                (try simp only [Act.put, List.getElem_toArray, List.getElem_cons_succ, List.getElem_cons_zero, List.setIfInBounds_toArray, List.set_cons_zero, List.set_cons_succ])
                refine wpAnyF_done (by kernel_rfl) ?_ _
                obtain ⟨A9, c9, e9, hts9, hA9⟩ := HB1.out.ts
                have HCN : Hid (([] ++ ws.map En.pr ++ lL).length = (ws ++ ents t lL).length ∧ PlC w w.heap.size (i + 1) (pushN es t lL) (ws ++ ents t lL) (t + nL) v2 A9 c9 vbw) := Lib.hid (by
                  obtain ⟨q1, q2⟩ := HC1.out.qi.push t HC1.out.tt lL
                  have hlL := HTL.out.len
                  have he : [] ++ ws.map En.pr ++ lL = (ws ++ ents t lL).map En.pr := by rw [List.map_append, ents_pr]; rfl
                  have hel : (ents t lL).length = lL.length := by have := congrArg List.length (ents_pr lL t); simpa using this
                  have ho := HB1.out
                  rw [he, e9] at ho
                  have q3 : ∀ e ∈ ws ++ ents t lL, e.t < t + nL := fun e he => by have := q2 e he; rw [hlL] at this; exact this
                  refine PlC.fresh q1 q3 (HV2.out.next HB2.out) ho (fun j q => ?_) (by have := HC1.out.lim; rw [List.length_append, hel, hlL]; omega) (HBW2.out.trans (HB2.out.mono HBW2.out.size)) HC1.out.gb
                  rcases q with q | q
                  · rw [q]; exact HV2.out.dev.lt
                  · exact (HV2.out.own.lt j q).2)
                subst e9
                rw [HCN.out.1]
                have HCN := Lib.hid HCN.out.2
                have HLQ := Lib.hid (qlen_any w.heap.size (t + nL) v2 _ vbw HCN.out.qu)
                rw [HCN.out.len] at HLQ
                obtain ⟨nn, hnn⟩ : ∃ nn, (ws ++ ents t lL).length = nn := ⟨_, rfl⟩
                have HNN := Lib.hid hnn
                rw [hnn] at HLQ ⊢
                clear hHeld hHeld0 hHeld2 hHeld5 hHeld6 c1 hnn hts9 hA9
                go_wp2_with fail
                refine HLQ.out.mono ?_
                rintro e w9 ⟨rfl, rfl⟩
                go_wp2
                go_roundw
                case rel => exact ⟨i + 1, _, _, _, v2, A9, c9, by go_num, by rw [HNN.out], by omega, by omega, HCN.out⟩
                case measure => simp [intOf]; omega
              · have hd1 : (K == 1) = false := by rw [beq_eq_false_iff_ne]; exact hk1
                by_cases hk2 : K = 2
                · subst hk2
                  have hel : 0 < es.length := by rw [HC1.out.len, HWL.out]; exact hnw
                  have HPO := Lib.hid (pop_any w.heap.size t v es W1 HC1.out.qu hel (by have := HC1.out.lim; have := HC1.out.len; omega))
                  have HPQ := Lib.hid (HC1.out.qi.pop HLA.out)
                  unfold PopE at HPO
                  rw [HPQ.out.1, HEA.out] at HPO
                  have hneq := neq_th x.n x.m
                  clear hel
                  go_wp2_with fail
                  rw [← HW1.out]
                  (try rw [← HP8X.out])
                  (try rw [← HPX.out])
                  refine HPO.out.mono ?_
                  rintro e w3 ⟨rfl, hq3⟩
                  have HPA : Hid (Turns (fun j => j = w.heap.size ∨ v.ownBlock = some j) W1 w3) := Lib.hid hq3.turns
                  obtain ⟨_, v3, hv3, hvo⟩ := hq3
                  have HV3 := Lib.hid (hv3.next ((Below.refl w3.heap.size w3).alloc (Nat.le_refl _) (.cells #[.int .i64 x.n, .int .i64 x.m] ThT)))
                  have HBW3 : Hid (Below w.heap.size w (w3.alloc (.cells #[.int .i64 x.n, .int .i64 x.m] ThT))) := Lib.hid ((HC1.out.below.trans (HPA.out.below HC1.out.below.size (fun j q => q.elim (fun e => by have := HC1.out.gb; omega) (fun e => by have := (HC1.out.qu.own.lt j e).1; have := HC1.out.gb; omega)))).alloc (Nat.le_trans HC1.out.below.size HPA.out.size) _)
                  have hTW3 : TS w3 (some ⟨bw, ow, none⟩) nw cw (ws.map En.pr) := by
                    have h1 := HC1.out.ts.turns HPA.out (fun ad had q => by
                      have h2 := HC1.out.apart (by rw [HWL.out]; exact hnw) ad had
                      exact q.elim h2.1 h2.2)
                    rwa [HWL.out] at h1
                  have HCT := Lib.hid (cut_any (some ⟨bw, ow, none⟩) nw cw a (ws.map En.pr) _ (hTW3.below ((Below.refl w3.heap.size w3).alloc (Nat.le_refl _) (.cells #[.int .i64 x.n, .int .i64 x.m] ThT))) (by have := HC1.out.lim; have := HWL.out; omega) haw)
                  have d8 : w3.heap[p8]? = some (.cells #[.int .i64 x.n, .int .i64 x.m] ThT) := (HPA.out.block _ HP8L.out (fun q => HP8N.out q)).trans HP8.out
                  have c80 := blk_cell d8 0
                  have c81 := blk_cell d8 1
                  have hp8 : p8 < w3.heap.size := blk_lt d8
                  clear hv3 hvo hTW3 d8
                  go_wp2_with fail
                  refine HCT.out.mono ?_
                  rintro e w4 ⟨v4, rfl, ho4, hb4⟩
                  obtain ⟨A9, c9, e9, _, _⟩ := ho4.ts
                  have HCN : Hid (((ws.map En.pr).eraseIdx a).length = (ws.eraseIdx a).length ∧ PlC w w.heap.size (i + 1) (popF es) (ws.eraseIdx a) t v3 A9 c9 w4) := Lib.hid (by
                    have ho := ho4
                    rw [← map_erase, e9, ← map_erase] at ho
                    rw [← map_erase]
                    refine PlC.fresh HPQ.out.2 (fun e he => HC1.out.tt e (List.mem_of_mem_eraseIdx he)) (HV3.out.next hb4) ho (fun j q => ?_) (by have := HC1.out.lim; have := List.length_eraseIdx_le ws a; omega) (HBW3.out.trans (hb4.mono HBW3.out.size)) HC1.out.gb
                    rcases q with q | q
                    · rw [q]; exact HV3.out.dev.lt
                    · exact (HV3.out.own.lt j q).2)
                  clear ho4 hb4
                  subst e9
                  rw [HCN.out.1]
                  have HCN := Lib.hid HCN.out.2
                  have HLQ := Lib.hid (qlen_any w.heap.size t v3 _ w4 HCN.out.qu)
                  rw [HCN.out.len] at HLQ
                  obtain ⟨nn, hnn⟩ : ∃ nn, (ws.eraseIdx a).length = nn := ⟨_, rfl⟩
                  have HNN := Lib.hid hnn
                  rw [hnn] at HLQ ⊢
                  clear hnn
                  go_wp2_with fail
                  refine HLQ.out.mono ?_
                  rintro e w9 ⟨rfl, rfl⟩
                  go_wp2
                  go_roundw
                  case rel => exact ⟨i + 1, _, _, _, v3, A9, c9, by go_num, by rw [HNN.out], by omega, by omega, HCN.out⟩
                  case measure => simp [intOf]; omega
                · have hd2 : (K == 2) = false := by rw [beq_eq_false_iff_ne]; exact hk2
                  by_cases hk3 : K = 3
                  · subst hk3
                    have hel : 0 < es.length := by rw [HC1.out.len, HWL.out]; exact hnw
                    have HPO := Lib.hid (peek_any w.heap.size t v es W1 HC1.out.qu hel (by have := HC1.out.lim; have := HC1.out.len; omega))
                    rw [HC1.out.qi.first HLA.out, HEA.out] at HPO
                    have hneq := neq_th x.n x.m
                    clear hel
                    go_wp2_with fail
                    rw [← HW1.out]
                    (try rw [← HP8X.out])
                    (try rw [← HPX.out])
                    refine HPO.out.mono ?_
                    rintro e w3 ⟨rfl, hb3⟩
                    have HCN : Hid (PlC w w.heap.size (i + 1) es ws t v (some ⟨bw, ow, none⟩) cw (w3.alloc (.cells #[.int .i64 x.n, .int .i64 x.m] ThT))) := Lib.hid (((HC1.out.next hb3).next ((Below.refl _ _).alloc (Nat.le_refl _) _)).step)
                    have HLQ := Lib.hid (qlen_any w.heap.size t v es _ HCN.out.qu)
                    rw [HCN.out.len, HWL.out] at HLQ
                    have d8 : w3.heap[p8]? = some (.cells #[.int .i64 x.n, .int .i64 x.m] ThT) := (hb3.block _ HP8L.out).trans HP8.out
                    have c80 := blk_cell d8 0
                    have c81 := blk_cell d8 1
                    have hp8 : p8 < w3.heap.size := blk_lt d8
                    clear hb3 d8
                    go_wp2_with fail
                    refine HLQ.out.mono ?_
                    rintro e w9 ⟨rfl, rfl⟩
                    go_wp2
                    go_roundw
                    case rel => exact ⟨i + 1, es, ws, t, v, (some ⟨bw, ow, none⟩), cw, by go_num, by rw [HWL.out], by omega, by omega, HCN.out⟩
                    case measure => simp [intOf]; omega
                  · have hd3 : (K == 3) = false := by rw [beq_eq_false_iff_ne]; exact hk3
                    by_cases hk4 : K = 4
                    · subst hk4
                      have HAL := Lib.hid (all_any w.heap.size t v es W1 HC1.out.qu (by have := HC1.out.lim; have := HC1.out.len; omega))
                      go_wp2_with fail
                      rw [← HW1.out]
                      (try rw [← HP8X.out])
                      (try rw [← HPX.out])
                      refine HAL.out.mono ?_
                      rintro e w4 ⟨A4, c4, rfl, hts4, hA4, hq4⟩
                      have HPA : Hid (Turns (fun j => j = w.heap.size ∨ v.ownBlock = some j) W1 w4) := Lib.hid hq4.turns
                      obtain ⟨v4, hv4⟩ := hq4.qu_
                      have HESL : Hid (es.length = nw) := Lib.hid (by rw [HC1.out.len, HWL.out])
                      have HBW4 : Hid (Below w.heap.size w w4) := Lib.hid (HC1.out.below.trans (HPA.out.below HC1.out.below.size (fun j q => q.elim (fun e => by have := HC1.out.gb; omega) (fun e => by have := (HC1.out.qu.own.lt j e).1; have := HC1.out.gb; omega))))
                      obtain ⟨P, hP⟩ : ∃ P, popsL es.length es = P := ⟨_, rfl⟩
                      have HPE := Lib.hid hP
                      rw [hP] at hts4
                      rw [HESL.out] at hts4 ⊢
                      have hc4 := hts4.cap
                      have hc5 := hts4.capm
                      have HST2 : Hid (PaR w w.heap.size t v4 es A4 nw c4 P (.slice (some ⟨bw, ow, none⟩) nw cw) (.int .i64 0) w4) := Lib.hid (by
                        refine ⟨0, ws, (some ⟨bw, ow, none⟩), cw, rfl, by rw [HWL.out], by rw [HWL.out, Nat.zero_add], HC1.out.qi, ?_, HC1.out.nil_, hts4, HBW4.out, hv4⟩
                        rcases Nat.eq_zero_or_pos ws.length with h0 | h0
                        · have h1 := HC1.out.ts
                          exact ⟨h1.len, h1.cap, h1.capm, fun q => by omega⟩
                        · exact HC1.out.ts.turns HPA.out (fun ad had q => by
                            have h2 := HC1.out.apart h0 ad had
                            exact q.elim h2.1 h2.2))
                      have hnwm : nw ≤ 1000000000 := by have := HC1.out.lim; have := HWL.out; omega
                      clear hts4 hA4 hq4 hv4 hP
                      go_wp2_with fail
                      go_loopw [4, 98] (fun wv iv W => PaR w w.heap.size t v4 es A4 nw c4 P wv iv W) (fun _ iv _ => nw - (intOf iv).toNat)
                      case atStart => exact HST2.out
                      case round =>
                        obtain ⟨k, ws2, A2, c2, rfl, rfl, hkm, hqi, htw, hn2, ht4, hb, hv⟩ := hrel
                        have HQ := Lib.hid hqi
                        have HTW := Lib.hid htw
                        have HT4 := Lib.hid ht4
                        have HB := Lib.hid hb
                        have HV := Lib.hid hv
                        have HN2 := Lib.hid hn2
                        have hwc := htw.cap
                        have hwm := htw.capm
                        obtain ⟨n2, hnw2⟩ : ∃ n2, ws2.length = n2 := ⟨_, rfl⟩
                        have HNWL := Lib.hid hnw2
                        rw [hnw2] at HTW hkm hwc ⊢
                        clear hqi htw ht4 hb hnw2 hv hn2 HST2
                        by_cases hlt : k < nw
                        · have hnp : 0 < n2 := by omega
                          obtain ⟨b4, o4, e4, hbw4, hcell4⟩ := HT4.out.at_ (by omega)
                          obtain ⟨a, ha, hfl⟩ := leastF_fl (ws2.map En.pr) (by rw [List.length_map, HNWL.out]; exact hnp)
                          rw [List.length_map, HNWL.out] at ha
                          have hla := LeastAt.of_fl HQ.out.sorted hfl
                          obtain ⟨hpE, hqi2⟩ := HQ.out.pop hla
                          have hal : a < n2 := by have := hla.1; rw [HNWL.out] at this; exact this
                          obtain ⟨x, hx⟩ : ∃ x, popE (restL k es) = x := ⟨_, rfl⟩
                          have hPk : P.getD k (0, 0) = x.pr := by rw [← HPE.out, popsL_get _ _ _ (by rw [HESL.out]; exact hlt), hx]
                          have hwa : (ws2.map En.pr).getD a (0, 0) = x.pr := by rw [getD_pr ws2 a hla.1, ← hpE, hx]
                          have c1 := (hcell4 k hlt).1
                          have c2' := (hcell4 k hlt).2
                          rw [hPk] at c1 c2'
                          change wr.cell? ⟨b4, o4 + k * 2, none⟩ = some (.int .i64 x.n) at c1
                          change wr.cell? ⟨b4, o4 + k * 2 + 1, none⟩ = some (.int .i64 x.m) at c2'
                          have HLE2 := Lib.hid (least_any A2 n2 c2 (ws2.map En.pr) (wr.alloc (.cells #[.int .i64 x.n, .int .i64 x.m] ThT)) (HTW.out.below ((Below.refl _ _).alloc (Nat.le_refl _) _)) (by omega))
                          rw [ha] at HLE2
                          have hal7 := heap_alloc_new wr (.cells #[.int .i64 x.n, .int .i64 x.m] ThT)
                          have HQ2 : Hid (QI (restL (k + 1) es) (ws2.eraseIdx a)) := Lib.hid (by rw [restL_succ]; exact hqi2)
                          have HWA2 := Lib.hid hwa
                          have HAL7 := Lib.hid hal7
                          have hneq := neq_th x.n x.m
                          subst e4
                          clear hcell4 ha hfl hla hpE hqi2 hx hPk hwa hal7
                          go_wp2_with fail
                          refine HLE2.out.mono ?_
                          rintro e w6 ⟨rfl, hb6⟩
                          have HW6 : Hid (After wr w6) := Lib.hid ((Below.refl _ _).alloc (Nat.le_refl _) _ |>.trans (hb6.mono (by simp)))
                          have d7 : w6.heap[wr.heap.size]? = some (.cells #[.int .i64 x.n, .int .i64 x.m] ThT) := (hb6.block _ (by simp)).trans HAL7.out
                          have c70 := blk_cell d7 0
                          have c71 := blk_cell d7 1
                          have HTW6 := Lib.hid (HTW.out.below HW6.out)
                          have HT46 := Lib.hid (HT4.out.below HW6.out)
                          have HV6 := Lib.hid (HV.out.next HW6.out)
                          have HB6 : Hid (Below w.heap.size w w6) := Lib.hid (HB.out.trans (Below.mono HW6.out HB.out.size))
                          obtain ⟨bw2, ow2, ew2, hbw2', hcw2⟩ := HTW6.out.at_ hnp
                          have ca2 := (hcw2 a hal).1
                          have cb2 := (hcw2 a hal).2
                          rw [HWA2.out] at ca2 cb2
                          change w6.cell? ⟨bw2, ow2 + a * 2, none⟩ = some (.int .i64 x.n) at ca2
                          change w6.cell? ⟨bw2, ow2 + a * 2 + 1, none⟩ = some (.int .i64 x.m) at cb2
                          have HCT := Lib.hid (fun q => cut_any A2 n2 c2 a (ws2.map En.pr) (w6.drewN q) (HTW6.out.drewN q) (by omega) hal)
                          have hga2 : decide ((a : Int) < 0) = false := decide_eq_false (by omega)
                          subst ew2
                          clear hb6 d7 hcw2
                          go_wp2_with fail
                          go_quiet (fail)
                          go_wp2_with fail
                          refine (HCT.out _).mono ?_
                          rintro e w8 ⟨v8, rfl, ho8, hb8⟩
                          obtain ⟨A8, c8, e8, ht8, _⟩ := ho8.ts
                          subst e8
                          have HE : Hid (PaR w w.heap.size t v4 es (some ⟨b4, o4, none⟩) nw c4 P (.slice A8 (ws2.map En.pr |>.eraseIdx a).length c8) (.int .i64 ((k : Int) + 1)) w8) := Lib.hid (by
                            have hle : ((ws2.map En.pr).eraseIdx a).length = (ws2.eraseIdx a).length := by rw [← map_erase, List.length_map]
                            have hl1 : (ws2.eraseIdx a).length = n2 - 1 := by rw [List.length_eraseIdx_of_lt (by rw [HNWL.out]; exact hal), HNWL.out]
                            refine ⟨k + 1, ws2.eraseIdx a, A8, c8, by simp, by rw [hle], by omega, HQ2.out, ?_, ho8.nil_, (HT46.out.drewN _).below hb8, (below_drewN HB6.out _).trans (hb8.mono HB6.out.size), (HV6.out.next (below_drewN (Below.refl _ _) _)).next hb8⟩
                            rw [map_erase, ← hle]; exact ht8)
                          clear ho8 hb8 ht8
                          go_wp2
                          go_roundw
                          case rel => exact HE.out
                          case measure => first | (simp [intOf]; omega) | simp [intOf]
                        · have hn20 : n2 = 0 := by omega
                          subst hn20
                          have HCN : Hid (PlC w w.heap.size (i + 1) [] [] t v4 A2 c2 wr) := Lib.hid (by
                            have h1 := HTW.out
                            exact ⟨QI.nil, (fun _ h => by cases h), HV.out, ⟨rfl, h1.cap, h1.capm, (fun q => by simp at q)⟩, HN2.out, (fun q => by simp at q), (by have := HC1.out.lim; simp; omega), HB.out, HC1.out.gb⟩)
                          have HLQ := Lib.hid (qlen_any w.heap.size t v4 [] _ HCN.out.qu)
                          go_wp2_with fail
                          refine HLQ.out.mono ?_
                          rintro e w9 ⟨rfl, rfl⟩
                          go_wp2
                          go_roundw
                          case rel => exact ⟨i + 1, [], [], t, v4, A2, c2, by go_num, rfl, by omega, by omega, HCN.out⟩
                          case measure => simp [intOf]; omega
                    · have hd4 : (K == 4) = false := by rw [beq_eq_false_iff_ne]; exact hk4
                      have HCN : Hid (PlC w w.heap.size (i + 1) es ws t v (some ⟨bw, ow, none⟩) cw W1) := Lib.hid (HC1.out.step)
                      have HLQ := Lib.hid (qlen_any w.heap.size t v es _ HCN.out.qu)
                      rw [HCN.out.len, HWL.out] at HLQ
                      go_wp2_with fail
                      rw [← HW1.out]
                      (try rw [← HP8X.out])
                      (try rw [← HPX.out])
                      refine HLQ.out.mono ?_
                      rintro e w9 ⟨rfl, rfl⟩
                      go_wp2
                      go_roundw
                      case rel => exact ⟨i + 1, es, ws, t, v, (some ⟨bw, ow, none⟩), cw, by go_num, by rw [HWL.out], by omega, by omega, HCN.out⟩
                      case measure => simp [intOf]; omega
      · have h50i : (50 : Int) ≤ (i : Int) := by omega
        clear hops hlb htl hnl
        go_wp2_with fail
        refine (HAW.out _).mono ?_
        rintro e w7 ⟨rfl, hb7⟩
        have HB7 : Hid (Below w.heap.size w w7) := Lib.hid ((HC.out.below.alloc HC.out.below.size _).trans (hb7.mono (Nat.le_trans HC.out.below.size (by simp))))
        clear hb7
        go_wp2
        go_ret
        exact ⟨rfl, HB7.out⟩
    · have hni : n = i := by omega
      subst hni
      go_wp2_with fail
      refine (HAW.out _).mono ?_
      rintro e w7 ⟨rfl, hb7⟩
      have HB7 : Hid (Below w.heap.size w w7) := Lib.hid (HC.out.below.trans (hb7.mono HC.out.below.size))
      clear hb7
      go_wp2
      go_ret
      exact ⟨rfl, HB7.out⟩
end Go.Proofs.Ytoioflbgmofgfab
