/-
  The document's Encode of a log.
-/
import Derived.Test.YtnalebocfbbpdaaLgS
import Derived.Test.YtnalebocfbbpdaaLgK
import Derived.Test.YtnalebocfbbpdaaLgQ
import Derived.Test.YtnalebocfbbpdaaSupA
import Derived.Lib.SlBytesConst
namespace Go.Proofs.Ytnalebocfbbpdaa
open Go.RowKit Go
set_option linter.unusedVariables false
set_option linter.unusedSimpArgs false
set_option maxRecDepth 100000
theorem conv_sig (W : World) : (convert 42 42 (.slice (some ⟨W.heap.size, 0, none⟩) 8 8)).run Try.prog (W.alloc (.cells #[.int .u8 82, .int .u8 69, .int .u8 68, .int .u8 79, .int .u8 45, .int .u8 76, .int .u8 79, .int .u8 71] 5)) =
    .ok (.slice (some ⟨W.heap.size, 0, none⟩) 8 8) (W.alloc (.cells #[.int .u8 82, .int .u8 69, .int .u8 68, .int .u8 79, .int .u8 45, .int .u8 76, .int .u8 79, .int .u8 71] 5 (8, 9))) :=
  Lib.run_convert_bytes_const W _ _ #[.int .u8 82, .int .u8 69, .int .u8 68, .int .u8 79, .int .u8 45, .int .u8 76, .int .u8 79, .int .u8 71] 8 8 Try.underlying42 Try.underlying5
theorem sig_ownF (B : Nat) (W W' : World) (hb : Below (W.heap.size + 1) (W.alloc (.cells #[.int .u8 82, .int .u8 69, .int .u8 68, .int .u8 79, .int .u8 45, .int .u8 76, .int .u8 79, .int .u8 71] 5 (8, 9))) W') : OwnF W' B (.slice (some ⟨W.heap.size, 0, none⟩) 8 8) sig := by
  have h0 : W'.heap[W.heap.size]? = some (.cells #[.int .u8 82, .int .u8 69, .int .u8 68, .int .u8 79, .int .u8 45, .int .u8 76, .int .u8 79, .int .u8 71] 5 (8, 9)) := (hb.block W.heap.size (by omega)).trans (heap_alloc_new W _)
  refine .inr ⟨W.heap.size, ?_, rfl, by decide, fun j hj => ?_⟩
  · have := hb.size; simp at this; omega
  · have h1 : W'.cell? ⟨W.heap.size, j, none⟩ = (#[.int .u8 82, .int .u8 69, .int .u8 68, .int .u8 79, .int .u8 45, .int .u8 76, .int .u8 79, .int .u8 71] : Array Value)[j]? := by simp [World.cell?, h0]
    rw [h1]
    have : j = 0 ∨ j = 1 ∨ j = 2 ∨ j = 3 ∨ j = 4 ∨ j = 5 ∨ j = 6 ∨ j = 7 := by simp [sig] at hj; omega
    rcases this with rfl | rfl | rfl | rfl | rfl | rfl | rfl | rfl <;> rfl
/-- a row of slices that lay below when the row was begun -/
def BrB (W w : World) (v : Value) (Ls : List (List Nat)) : Prop := Below W.heap.size W w ∧ ∃ vs : List Value, w.ownsRow W.heap.size 42 1 v Ls.length vs ∧ ∀ i, i < Ls.length → ∃ A c, vs[i]? = some (.slice A (Ls.getD i []).length c) ∧ BS W W.heap.size A (Ls.getD i []).length c (Ls.getD i [])
theorem BrB.below {W w w' : World} {v : Value} {Ls : List (List Nat)} (h : BrB W w v Ls) (hb : Below w.heap.size w w') : BrB W w' v Ls := by
  obtain ⟨h0, vs, h1, h2⟩ := h
  exact ⟨h0.trans (hb.mono h0.size), vs, h1.kept (row := none) ⟨hb.os, hb.tape, hb.output, hb.size, fun k hk _ => hb.block k hk⟩ (by cases hv : v.ownBlock <;> simp), h2⟩
theorem BrB.one {W : World} {A : Option Addr} {c : Nat} {l : List Nat} (h : BS W W.heap.size A l.length c l) : BrB W (W.alloc (.cells #[.slice A l.length c] 42)) (.slice (some ⟨W.heap.size, 0, none⟩) 1 1) [l] :=
  ⟨(Below.refl _ _).alloc (Nat.le_refl _) _, [.slice A l.length c], ⟨rfl, .inr ⟨W.heap.size, 1, #[.slice A l.length c], rfl, Nat.le_refl _, heap_alloc_new _ _, Nat.le_refl _, by unfold maxLen; omega, rfl, rfl⟩⟩, fun i hi => by
    have h0 : i = 0 := by simp at hi; exact hi
    subst h0
    exact ⟨A, c, rfl, h⟩⟩
theorem BrB.at_ {W w : World} {v : Value} {Ls : List (List Nat)} (h : BrB W w v Ls) (hl : 0 < Ls.length) : ∃ g cap, v = .slice (some ⟨g, 0, none⟩) Ls.length cap ∧ Blk w g Ls := by
  obtain ⟨h0, vs, ⟨hvl, k⟩, h2⟩ := h
  rcases k with ⟨rfl, e⟩ | ⟨g, cap, cur, rfl, hg, hh, hn, hm, hs, ht⟩
  · omega
  · refine ⟨g, cap, rfl, blk_lt hh, fun i hi => ?_⟩
    obtain ⟨A, c, k1, k2⟩ := h2 i hi
    refine ⟨A, c, (blk_cell hh i).trans ?_, (k2.below h0).more h0.size⟩
    have h3 : (cur.toList.take (Ls.length * 1))[i]? = some (.slice A (Ls.getD i []).length c) := by rw [ht]; exact k1
    rw [List.getElem?_take_of_lt (by omega)] at h3
    simpa using h3
theorem wp_appBb {ops : Array Oper} {rest : List Oper} {o : Oper} {a : Act} {Q : Exit → Act → World → Prop} (W : World) (hgd : o.guard = none) (s x : Operand)
    (ho : o.op = .call { callee := .builtin .append, args := #[s, x], argTypes := #[29, 29] })
    (W0 : World) (v : Value) (A : Option Addr) (c : Nat) (Ls : List (List Nat)) (l : List Nat) (n : Nat) (hnl : l.length = n) (hs : a.eval s = v) (hown : BrB W0 W v Ls) (hl : Ls.length < 1000)
    (g : Nat) (hgs : g = W.heap.size) (hx : a.eval x = .slice (some ⟨g, 0, none⟩) 1 1) (hy : BS W0 W0.heap.size A n c l)
    (h : ∀ v' w', BrB W0 w' v' (Ls ++ [l]) → wpList Try.prog ops Q rest (a.put o.dst v') w') :
    wpList Try.prog ops Q (o :: rest) a (W.alloc (.cells #[.slice A n c] 42)) := by
  subst hgs hnl
  obtain ⟨h0, vs, hr, hit⟩ := hown
  obtain ⟨i0, hi, hz0, hz1, hz2⟩ := info_parts info_bs
  have hba : Below W.heap.size W (W.alloc (.cells #[.slice A l.length c] 42)) := (Below.refl _ _).alloc (Nat.le_refl _) _
  have hra := World.ownsRow.alloc hr (.cells #[.slice A l.length c] 42)
  have hBa : W0.heap.size ≤ (W.alloc (.cells #[.slice A l.length c] 42)).heap.size := by have := h0.size; simp; omega
  refine wpList_append_own _ hgd s x 29 ho W0.heap.size 42 i0 (.slice none 0 0) 1 24 Try.underlying29 hi hz0 hz1 hz2 rfl (by decide) v Ls.length vs hs hra ⟨W.heap.size, 0, none⟩ 1 1
    [.slice A l.length c] hx rfl ?_ ?_ (by unfold maxLen; omega) (by omega) hBa ?_
  · intro j u hj
    match j, hj with
    | 0, hj => simp at hj; subst hj; simp [Addr.add]
  · intro u hu; simp at hu; subst hu; rfl
  · intro v' w1 hown' hg _
    refine h v' w1 ⟨(h0.trans (hba.mono h0.size)).grown hg hBa (fun k hk => (World.ownsRow.lt hra k hk).1), vs ++ [.slice A l.length c], by rw [List.length_append]; exact hown', fun i hi2 => ?_⟩
    have hvl : vs.length = Ls.length := by have := hr.1; simpa using this
    by_cases hlt : i < Ls.length
    · obtain ⟨A2, c2, k1, k2⟩ := hit i hlt
      have e1 : (Ls ++ [l]).getD i [] = Ls.getD i [] := by simp [List.getD, List.getElem?_append_left hlt]
      rw [e1]
      exact ⟨A2, c2, by rw [List.getElem?_append_left (by omega)]; exact k1, k2⟩
    · have e0 : i = Ls.length := by rw [List.length_append] at hi2; simp at hi2; omega
      subst e0
      have e1 : (Ls ++ [l]).getD Ls.length [] = l := by simp [List.getD]
      rw [e1]
      exact ⟨A, c, by rw [← hvl]; simp, hy⟩
def REncTo (w : World) (cnt : Nat) (es : List (Int × List Nat)) (e : Ending) (w' : World) : Prop :=
  ∃ g cap, e = .returned (.slice (some ⟨g, 0, none⟩) (es.length + 1) cap) ∧ Blk w' g (blksL cnt es es.length) ∧ Below w.heap.size w w'
set_option maxHeartbeats 8000000 in
theorem rencode14_any (cnt n c : Nat) (A : Option Addr) (es : List (Int × List Nat)) (hcnt : cnt < 2 ^ 64) (hK : KOk es) (hn9 : n ≤ 100) (w : World) (hE : EsV w A n es) :
    Calls Try.prog 12 #[.agg #[.int .u64 (cnt : Int), .slice A n c]] w (REncTo w cnt es) := by
  have hl := hE.1
  obtain ⟨W0, hW⟩ : ∃ W0, W0 = w.alloc (.cells #[.int .u64 (cnt : Int), .slice A n c] 27) := ⟨_, rfl⟩
  have s0 : W0.heap.size = w.heap.size + 1 := by rw [hW]; simp
  have hb0 : Below w.heap.size w W0 := by rw [hW]; exact (Below.refl _ _).alloc (Nat.le_refl _) _
  have hx0 : W0.heap[w.heap.size]? = some (.cells #[.int .u64 (cnt : Int), .slice A n c] 27 (0, 0)) := by rw [hW]; exact heap_alloc_new w _
  have HS0 := Lib.hid s0
  have HB0 := Lib.hid hb0
  have HX0 := Lib.hid hx0
  have HE0 := Lib.hid (hE.below hb0)
  have HE := Lib.hid hE
  have HL := Lib.hid hl
  have HC0 : Hid (∀ W, Below W0.heap.size W0 W → W.cell? ⟨w.heap.size, 0, none⟩ = some (.int .u64 (cnt : Int)) ∧ W.cell? ⟨w.heap.size, 1, none⟩ = some (.slice A n c)) := Lib.hid (fun W h => by
    have h2 := (h.block _ (blk_lt HX0.out)).trans HX0.out
    exact ⟨blk_cell h2 0, blk_cell h2 1⟩)
  have HP8 := Lib.hid (fun W => refPut_yes 8 cnt (by omega) (by omega) hcnt W)
  have HP2 := Lib.hid (fun W => refPut_yes 2 n (by omega) (by omega) (by omega) W)
  have HPK : Hid (∀ k, k < n → ∀ W, Calls Try.prog 26 #[.int .i64 2, .int .u64 (kAt es k)] W (Gives W (putL 2 (kAt es k).toNat))) := Lib.hid (fun k hk W => by
    have := hK k (by omega)
    have h := refPut_yes 2 (kAt es k).toNat (by omega) (by omega) (by omega) W
    rw [Int.toNat_of_nonneg this.1] at h
    exact h)
  have HWK : Hid (∀ k, k < n → IntKind.u64.wrap (kAt es k) = kAt es k) := Lib.hid (fun k hk => by
    have := hK k (by omega)
    unfold IntKind.wrap
    simp [IntKind.signed, IntKind.bits]
    omega)
  have hwn : IntKind.u64.wrap (n : Int) = (n : Int) := by unfold IntKind.wrap; simp [IntKind.signed, IntKind.bits]; omega
  have e8 : (putL 8 cnt).length = 8 := putL_len _ _
  have e2 : (putL 2 n).length = 2 := putL_len _ _
  have b8 : ∀ i, (putL 8 cnt).getD i 0 < 256 := putL_byte _ _
  have b2 : ∀ i, (putL 2 n).getD i 0 < 256 := putL_byte _ _
  have HE8 := Lib.hid e8
  have HB8 := Lib.hid b8
  have HE2 := Lib.hid e2
  have HFE : Hid (headF cnt es = sig ++ putL 8 cnt ++ putL 2 n) := Lib.hid (by unfold headF; rw [hl]; simp)
  have HFB : Hid (∀ k i, (headF cnt es ++ kL es k).getD i 0 < 256) := Lib.hid (fun k => app_byte (headF_byte cnt es) (kL_byte es k))
  have HFL : Hid (∀ k, k ≤ n → (headF cnt es ++ kL es k).length = 18 + 2 * k) := Lib.hid (fun k hk => by rw [List.length_append, headF_len, kL_len es k (by omega)])
  have HS1 : Hid (∀ k, k < n → headF cnt es ++ kL es (k + 1) = (headF cnt es ++ kL es k) ++ putL 2 (kAt es k).toNat) := Lib.hid (fun k hk => by rw [kL_step es (by omega), List.append_assoc])
  have HHD : Hid (padL (headF cnt es ++ kL es n) 256 = headL cnt es) := Lib.hid (by unfold headL; rw [hl])
  have HBL : Hid (∀ k, k < n → blksL cnt es (k + 1) = blksL cnt es k ++ [dAt es k]) := Lib.hid (fun k hk => by
    have hke : k < es.length := by omega
    unfold blksL
    rw [List.take_succ_eq_append_getElem hke, List.map_append]
    have e1 : dAt es k = (es[k]).2 := by unfold dAt; simp [List.getD, List.getElem?_eq_getElem hke]
    rw [e1]; rfl)
  have HB9 : Hid (∀ k, (blksL cnt es k).length < 1000) := Lib.hid (fun k => by unfold blksL; rw [List.length_cons, List.length_map, List.length_take]; omega)
  have HBZ : Hid (blksL cnt es 0 = [headL cnt es]) := Lib.hid rfl
  have HBN : Hid ((blksL cnt es n).length = es.length + 1) := Lib.hid (by rw [← hl, blksL_all]; simp)
  have HKZ : Hid (kL es 0 = []) := Lib.hid rfl
  have hcs := conv_sig (w.alloc (.cells #[.int .u64 (cnt : Int), .slice A n c] 27))
  have hsz : (w.alloc (.cells #[.int .u64 (cnt : Int), .slice A n c] 27)).heap.size = w.heap.size + 1 := by simp
  rw [hsz] at hcs
  have k0 : (w.alloc (.cells #[.int .u64 (cnt : Int), .slice A n c] 27)).cell? ⟨w.heap.size, 0, none⟩ = some (.int .u64 (cnt : Int)) := blk_cell (heap_alloc_new w _) 0
  have k1 : (w.alloc (.cells #[.int .u64 (cnt : Int), .slice A n c] 27)).cell? ⟨w.heap.size, 1, none⟩ = some (.slice A n c) := blk_cell (heap_alloc_new w _) 1
  have HW := Lib.hid hW
  clear hE hl hb0 hx0 hK hcnt e8 e2 s0 hW hsz b8 b2
  generalize putL 8 cnt = x8 at *
  generalize putL 2 n = x2 at *
  obtain ⟨p8, hp8⟩ : ∃ p, p = sig ++ x8 := ⟨_, rfl⟩
  have HP8E := Lib.hid hp8
  have HP8L : Hid (p8.length = 16) := Lib.hid (by rw [hp8, List.length_append, HE8.out]; rfl)
  have HP8B : Hid (∀ i, p8.getD i 0 < 256) := Lib.hid (by rw [hp8]; exact app_byte sig_byte HB8.out)
  rw [← hp8] at HFE
  clear hp8
  go_enter Try.func12, Try.ntmps12
  go_wp2_with fail
  rw [← HW.out]
  clear k0 k1 hcs
  have hba : Below W0.heap.size W0 (W0.alloc (.cells #[.int .u8 82, .int .u8 69, .int .u8 68, .int .u8 79, .int .u8 45, .int .u8 76, .int .u8 79, .int .u8 71] 5 (8, 9))) := (Below.refl _ _).alloc (Nat.le_refl _) _
  refine (HP8.out _).mono ?_
  rintro e w1 ⟨A1, c1, rfl, hb1, hx1⟩
  have HF1 : Hid (OwnF w1 W0.heap.size (.slice (some ⟨w.heap.size + 1, 0, none⟩) 8 8) sig) := Lib.hid (by
    rw [← HS0.out]
    rw [World.size_alloc] at hb1
    exact sig_ownF W0.heap.size W0 w1 hb1)
  have HB1 : Hid (Below W0.heap.size W0 w1) := Lib.hid (hba.trans (hb1.mono hba.size))
  rw [HE8.out] at hx1 ⊢
  have HX1 := Lib.hid hx1
  obtain ⟨k0, k1⟩ := HC0.out w1 HB1.out
  clear hb1 hx1 hba
  go_wp2_with (at_builtin; refine wp_appsF w1 rfl (.tmp 11) (.tmp 14) rfl W0.heap.size (.slice (some ⟨w.heap.size + 1, 0, none⟩) 8 8) sig rfl HF1.out w1.heap.size A1 8 c1 x8 rfl HX1.out (by omega) (by rw [show sig.length = 8 from rfl]; omega) HB1.out.size ?_; intro v2 w2 hown2 hb2 hg2; rw [← HP8E.out] at hown2; have HO2 := Lib.hid hown2; have HB2 : Hid (Below W0.heap.size W0 w2) := Lib.hid (HB1.out.trans hb2); clear k0 k1; obtain ⟨k0, k1⟩ := HC0.out w2 HB2.out; obtain ⟨A2, c2, rfl, _⟩ := hown2.bs HP8B.out; clear hown2 hb2 hg2)
  refine (HP2.out _).mono ?_
  rintro e w3 ⟨A3, c3, rfl, hb3, hx3⟩
  rw [HE2.out] at hx3 ⊢
  have HB3 : Hid (Below W0.heap.size W0 w3) := Lib.hid (HB2.out.trans (hb3.mono HB2.out.size))
  have HO3 := Lib.hid (HO2.out.below hb3)
  have HX3 := Lib.hid hx3
  clear hb3 hx3 k0 k1
  obtain ⟨k0, k1⟩ := HC0.out w3 HB3.out
  go_wp2_with (at_builtin; refine wp_appsF w3 rfl (.tmp 16) (.tmp 21) rfl W0.heap.size (.slice A2 p8.length c2) p8 rfl (.inl HO3.out) w3.heap.size A3 2 c3 x2 rfl HX3.out (by omega) (by rw [HP8L.out]; omega) HB3.out.size ?_; intro v4 w4 hown4 hb4 hg4; have HO4 := Lib.hid hown4; have HB4 : Hid (Below W0.heap.size W0 w4) := Lib.hid (HB3.out.trans hb4); clear k0 k1; obtain ⟨k0, k1⟩ := HC0.out w4 HB4.out; clear hown4 hb4 hg4)
  clear k0 k1
  go_loopw [3, 26] (fun v iv wr => ∃ k : Nat, iv = .int .i64 (k : Int) ∧ k ≤ n ∧ Own wr W0.heap.size v (headF cnt es ++ kL es k) ∧ Below W0.heap.size W0 wr) (fun _ iv _ => n - (intOf iv).toNat)
  case atStart => exact ⟨0, rfl, by omega, by rw [HKZ.out, List.append_nil, HFE.out]; exact HO4.out, HB4.out⟩
  case round =>
    clear HO4 HB4 HO3 HX3 HB3 HO2 HB2 HX1 HB1 HF1
    obtain ⟨k, rfl, hk, ho, hb⟩ := hrel
    have HO := Lib.hid ho
    have HB := Lib.hid hb
    have HFBk := Lib.hid (HFB.out k)
    have HFLk := Lib.hid (HFL.out k hk)
    obtain ⟨Av, cv, rfl, hbs⟩ := ho.bs HFBk.out
    have HBS := Lib.hid hbs
    clear ho hb hbs
    by_cases hlt : k < n
    · obtain ⟨b, o, rfl, hEs⟩ := HE0.out.2 (by omega)
      obtain ⟨A1, c1, q1, q2, q3⟩ := hEs.2 k (by rw [HL.out]; exact hlt)
      have p1 : wr.cell? ⟨b, o + k * 2, none⟩ = some (.int .i64 (kAt es k)) := (HB.out.cell (p := ⟨b, o + k * 2, none⟩) hEs.1).trans q1
      have p2 : wr.cell? ⟨b, o + k * 2 + 1, none⟩ = some (.slice A1 (dAt es k).length c1) := (HB.out.cell (p := ⟨b, o + k * 2 + 1, none⟩) hEs.1).trans q2
      have HPKk := Lib.hid (HPK.out k hlt)
      have hwk := HWK.out k hlt
      have HS1k := Lib.hid (HS1.out k hlt)
      have HEk : Hid ((putL 2 (kAt es k).toNat).length = 2) := Lib.hid (putL_len _ _)
      clear q1 q2 q3 hEs
      generalize putL 2 (kAt es k).toNat = xk at *
      generalize kAt es k = X at *
      generalize (dAt es k).length = nl at *
      generalize headF cnt es ++ kL es k = pre at *
      have HA5 : Hid (Below wr.heap.size wr (wr.alloc (.cells #[.int .i64 X, .slice A1 nl c1] 55))) := Lib.hid ((Below.refl _ _).alloc (Nat.le_refl _) _)
      have HB5 := Lib.hid (HB.out.trans (HA5.out.mono HB.out.size))
      have HO5 := Lib.hid (HO.out.below HA5.out)
      go_wp2_with fail
      generalize (wr.alloc (.cells #[.int .i64 X, .slice A1 nl c1] 55)) = W5 at *
      refine (HPKk.out W5).mono ?_
      rintro e w6 ⟨A6, c6, rfl, hb6, hx6⟩
      rw [HEk.out] at hx6 ⊢
      have HX6 := Lib.hid hx6
      have HB6 := Lib.hid (HB5.out.trans (hb6.mono HB5.out.size))
      have HO6 := Lib.hid (HO5.out.below hb6)
      clear hb6 hx6
      go_wp2_with (at_builtin; refine wp_appsF w6 rfl (.tmp 30) (.tmp 34) rfl W0.heap.size (.slice Av pre.length cv) pre rfl (.inl HO6.out) w6.heap.size A6 2 c6 xk rfl HX6.out (by omega) (by rw [HFLk.out]; omega) HB6.out.size ?_; intro v7 w7 hown7 hb7 hg7; have HO7 := Lib.hid hown7; have HB7 : Hid (Below W0.heap.size W0 w7) := Lib.hid (HB6.out.trans hb7); clear hown7 hb7 hg7)
      go_roundw
      case rel => exact ⟨k + 1, by simp, by omega, by rw [HS1k.out]; exact HO7.out, HB7.out⟩
      case measure => simp [intOf]; omega
    · obtain rfl : k = n := by omega
      generalize headF cnt es ++ kL es k = pre at *
      go_wp2_with fail
      refine (refPad_yes Av _ cv 256 pre wr HBS.out (by rw [HFLk.out]; omega) (by omega)).mono ?_
      rintro e w8 ⟨A8, c8, rfl, hb8, hx8⟩
      rw [HHD.out, head_len] at hx8 ⊢
      have HB8w : Hid (Below W0.heap.size W0 w8) := Lib.hid (HB.out.trans (hb8.mono HB.out.size))
      have HX8 := Lib.hid hx8
      have HBR : Hid (BrB w8 (w8.alloc (.cells #[.slice A8 256 c8] 42)) (.slice (some ⟨w8.heap.size, 0, none⟩) 1 1) (blksL cnt es 0)) := Lib.hid (by
        rw [HBZ.out, ← head_len cnt es]
        exact BrB.one (by rw [head_len]; exact hx8))
      have HB9w : Hid (Below W0.heap.size W0 (w8.alloc (.cells #[.slice A8 256 c8] 42))) := Lib.hid (HB8w.out.alloc HB8w.out.size _)
      obtain ⟨k0, k1⟩ := HC0.out _ HB9w.out
      clear hb8 hx8 HFLk HFBk HO HBS
      go_wp2
      clear k0 k1
      go_loopw [6, 43] (fun v iv wq => ∃ j : Nat, iv = .int .i64 (j : Int) ∧ j ≤ k ∧ BrB w8 wq v (blksL cnt es j)) (fun _ iv _ => k - (intOf iv).toNat)
      case atStart => exact ⟨0, rfl, by omega, HBR.out⟩
      case round =>
        clear HBR HB9w
        obtain ⟨j, rfl, hj, hbr⟩ := hrel
        have HBK := Lib.hid hbr
        have HBQ : Hid (Below W0.heap.size W0 wr) := Lib.hid (HB8w.out.trans (hbr.1.mono HB8w.out.size))
        clear hbr
        by_cases hlt : j < k
        · obtain ⟨b, o, rfl, hEs⟩ := HE0.out.2 (by omega)
          obtain ⟨A1, c1, q1, q2, q3⟩ := hEs.2 j (by rw [HL.out]; exact hlt)
          have p1 : wr.cell? ⟨b, o + j * 2, none⟩ = some (.int .i64 (kAt es j)) := (HBQ.out.cell (p := ⟨b, o + j * 2, none⟩) hEs.1).trans q1
          have p2 : wr.cell? ⟨b, o + j * 2 + 1, none⟩ = some (.slice A1 (dAt es j).length c1) := (HBQ.out.cell (p := ⟨b, o + j * 2 + 1, none⟩) hEs.1).trans q2
          have HY : Hid (BS w8 w8.heap.size A1 (dAt es j).length c1 (dAt es j)) := Lib.hid ((show BS W0 W0.heap.size A1 (dAt es j).length c1 (dAt es j) from q3).below HB8w.out |>.more HB8w.out.size)
          have HBj := Lib.hid (HBL.out j hlt)
          have HNL : Hid ((dAt es j).length = (dAt es j).length) := Lib.hid rfl
          clear q1 q2 q3 hEs
          generalize kAt es j = X at *
          generalize hnl : (dAt es j).length = nl at HNL HY p2 ⊢
          have HNL2 := Lib.hid hnl
          clear hnl
          generalize dAt es j = dd at *
          have HA5 : Hid (Below wr.heap.size wr (wr.alloc (.cells #[.int .i64 X, .slice A1 nl c1] 55))) := Lib.hid ((Below.refl _ _).alloc (Nat.le_refl _) _)
          have HBR5 := Lib.hid (HBK.out.below HA5.out)
          have HS5 : Hid ((wr.alloc (.cells #[.int .i64 X, .slice A1 nl c1] 55)).heap.size = wr.heap.size + 1) := Lib.hid (by simp)
          go_wp2_with (at_builtin; refine wp_appBb _ rfl (.tmp 47) (.tmp 50) rfl w8 u6 A1 c1 (blksL cnt es j) dd nl HNL2.out rfl HBR5.out (HB9.out j) _ HS5.out.symm rfl HY.out ?_; intro v9 w9 hbr9; have HBR9 := Lib.hid hbr9; clear hbr9)
          go_roundw
          case rel => exact ⟨j + 1, by simp, by omega, by rw [HBj.out]; exact HBR9.out⟩
          case measure => simp [intOf]; omega
        · obtain rfl : j = k := by omega
          have HF : Hid (REncTo w cnt es (.returned u6) wr) := Lib.hid (by
            obtain ⟨g, cap, e, hblk⟩ := HBK.out.at_ (by rw [HBN.out]; omega)
            rw [HBN.out] at e
            subst e
            refine ⟨g, cap, rfl, by rw [HL.out]; exact hblk, HB0.out.trans (HBQ.out.mono HB0.out.size)⟩)
          go_wp2
          go_ret
          exact HF.out
end Go.Proofs.Ytnalebocfbbpdaa
