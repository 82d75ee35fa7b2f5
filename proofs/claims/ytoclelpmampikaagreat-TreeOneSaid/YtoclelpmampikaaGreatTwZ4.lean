/-
  Joined: TwK, TwL, TwM.
-/
import Derived.Test.YtoclelpmampikaaGreatTwZ3
import Derived.Deep.AppendLies
import Derived.Test.YtoclelpmampikaaGreatPtZ2
namespace Go.Proofs.YtoclelpmampikaaGreat
set_option maxRecDepth 100000
section
open Go.RowKit Go
set_option linter.unusedVariables false
set_option linter.unusedSimpArgs false
theorem made_at (z : Array Value) (n p : Nat) (hp : p < n) : (madeCells z n)[p]? = some (z[p % z.size]!) := by
  unfold madeCells
  rw [Array.getElem?_map, Array.getElem?_range, if_pos hp]; rfl
def zero32L : List Nat := List.replicate 32 0
theorem zero32_dig : IsDig zero32L := ⟨by simp [zero32L], fun i => by
  unfold zero32L
  rw [List.getD_eq_getElem?_getD]
  by_cases h : i < 32
  · rw [List.getElem?_replicate, if_pos h]; simp
  · rw [List.getElem?_eq_none (by simp; omega)]; simp⟩
theorem zero32_at (i : Nat) : zero32L.getD i 0 = 0 := by
  unfold zero32L
  rw [List.getD_eq_getElem?_getD]
  by_cases h : i < 32
  · rw [List.getElem?_replicate, if_pos h]; rfl
  · rw [List.getElem?_eq_none (by simp; omega)]; rfl
/-- leaves in memory, cell by cell -/
def lwF (ks : Nat → Nat) (xs : Nat → List Nat) (p : Nat) : Value := if p % 33 = 0 then .int .i64 (ks (p / 33) : Int) else u8 ((xs (p / 33)).getD (p % 33 - 1) 0)
theorem lf_info : (Tryz.prog.info? LfT).map (fun i => (i.zero, i.size, i.bytes)) = some (some (.agg (rowV lfZ 33)), 33, 40) := by kernel_rfl
theorem make_lf (n : Nat) (hn : n ≤ 1000) : ∃ cs : Array Value, (∀ p, p < n * 33 → cs[p]? = some (lwF (fun _ => 0) (fun _ => zero32L) p)) ∧ ∀ w, (Instr.makeSlice 49 (.int .i64 (n : Int)) (.int .i64 (n : Int))).run Tryz.prog w = .ok (.slice (some ⟨w.heap.size, 0, none⟩) n n) (w.alloc (.cells cs LfT)) := by
  obtain ⟨i, h0, h1, h2, h3⟩ := info_parts lf_info
  refine ⟨madeCells (Value.agg (rowV lfZ 33)).cells (n * 33), fun p hp => ?_, fun w => ?_⟩
  · rw [made_at _ _ _ hp]
    have e1 : (Value.agg (rowV lfZ 33)).cells = rowV lfZ 33 := rfl
    rw [e1, rowV_size]
    have hq : p % 33 < 33 := Nat.mod_lt _ (by omega)
    have e2 := rowV_at lfZ hq
    rw [Array.getElem!_eq_getD, Array.getD_eq_getD_getElem?, e2]
    unfold lwF lfZ
    by_cases h : p % 33 = 0
    · rw [if_pos h, if_pos h]; rfl
    · rw [if_neg h, if_neg h, zero32_at]; rfl
  · have hr := run_make (P := Tryz.prog) w 49 LfT i _ Tryz.underlying49 h0 h1 .i64 .i64 n n (by omega) (by omega) (by rw [h3]; omega) (by omega)
    rw [hr, h2]
    simp only [Int.toNat_natCast]
/-- digests that came in -/
def DgS (W : World) (A : Option Addr) (n : Nat) (ls : Nat → List Nat) : Prop :=
  (0 < n → ∃ b o, A = some ⟨b, o, none⟩ ∧ b < W.heap.size ∧ ∀ k, k < n → W.rangeAt b (o + k * 32) (dA (ls k)).toList) ∧ ∀ k, IsDig (ls k)
theorem DgS.below {W W' : World} {A : Option Addr} {n : Nat} {ls : Nat → List Nat} (h : DgS W A n ls) (hb : Below W.heap.size W W') : DgS W' A n ls := ⟨fun hn => by
  obtain ⟨b, o, h1, h2, h3⟩ := h.1 hn
  exact ⟨b, o, h1, Nat.lt_of_lt_of_le h2 hb.size, fun k hk => range_of (hb.block b h2) (h3 k hk)⟩, h.2⟩
def mixK (k : Nat) (j : Nat) : Nat := if j < k then j else 0
def mixX (k : Nat) (ls : Nat → List Nat) (j : Nat) : List Nat := if j < k then ls j else zero32L
theorem lwF_setK (k : Nat) (xs : Nat → List Nat) (p : Nat) : (if p = k * 33 then .int .i64 (k : Int) else lwF (mixK k) xs p) = lwF (mixK (k + 1)) xs p := by
  unfold lwF mixK
  by_cases h : p = k * 33
  · subst h
    rw [if_pos rfl, if_pos (by omega), show k * 33 / 33 = k by omega, if_pos (by omega)]
  · rw [if_neg h]
    by_cases h0 : p % 33 = 0
    · rw [if_pos h0, if_pos h0]
      by_cases h1 : p / 33 < k
      · rw [if_pos h1, if_pos (by omega)]
      · rw [if_neg h1, if_neg (by omega)]
    · rw [if_neg h0, if_neg h0]
theorem lwF_setX (k : Nat) (ks : Nat → Nat) (ls : Nat → List Nat) (p : Nat) : (if k * 33 + 1 ≤ p ∧ p < k * 33 + 1 + 32 then (dA (ls k)).toList.getD (p - (k * 33 + 1)) undef else lwF ks (mixX k ls) p) = lwF ks (mixX (k + 1) ls) p := by
  unfold lwF mixX
  by_cases h : k * 33 + 1 ≤ p ∧ p < k * 33 + 1 + 32
  · rw [if_pos h, if_neg (by omega), show p / 33 = k by omega, if_pos (by omega), List.getD_eq_getElem?_getD, Array.getElem?_toList, rowV_at _ (by omega), show p % 33 - 1 = p - (k * 33 + 1) by omega]
    rfl
  · rw [if_neg h]
    by_cases h0 : p % 33 = 0
    · rw [if_pos h0, if_pos h0]
    · rw [if_neg h0, if_neg h0]
      by_cases h1 : p / 33 < k
      · rw [if_pos h1, if_pos (by omega)]
      · rw [if_neg h1, if_neg (by omega)]
def LowTo (w : World) (n nl : Nat) (ls : Nat → List Nat) (e : Ending) (w' : World) : Prop :=
  ∃ lk, e = .returned (.slice (some ⟨lk, 0, none⟩) n n) ∧ w.heap.size ≤ lk ∧ lk < w'.heap.size ∧ Below w.heap.size w w' ∧ ∀ j, j < n → w'.rangeAt lk (0 + j * 33) (lfL j (mixX nl ls j))
theorem low_range {W : World} {lk n nl : Nat} {ls : Nat → List Nat} (h : Cells W lk (n * 33) (lwF (mixK n) (mixX nl ls))) (j : Nat) (hj : j < n) : W.rangeAt lk (0 + j * 33) (lfL j (mixX nl ls j)) := by
  refine Cells.range h fun k v hv => ?_
  have hk : k < 33 := by have := (List.getElem?_eq_some_iff.1 hv).1; rw [lfL_len] at this; exact this
  refine ⟨by omega, ?_⟩
  unfold lwF
  cases k with
  | zero =>
    simp [lfL] at hv
    rw [if_pos (by omega), show (0 + j * 33 + 0) / 33 = j by omega]
    unfold mixK
    rw [if_pos hj]; exact hv.symm
  | succ k =>
    rw [lfL, List.getElem?_cons_succ, Array.getElem?_toList, rowV_at _ (by omega)] at hv
    rw [if_neg (by omega), show (0 + j * 33 + (k + 1)) / 33 = j by omega, show (0 + j * 33 + (k + 1)) % 33 - 1 = k by omega]
    exact (Option.some.inj hv).symm
set_option maxHeartbeats 2000000 in
set_option maxRecDepth 100000 in
theorem lowest_any (n nl cl : Nat) (A : Option Addr) (ls : Nat → List Nat) (w : World) (h : DgS w A nl ls) (hn : n ≤ 1000) (hnl : nl ≤ n) (hcl : nl ≤ cl) :
    Calls Tryz.prog 17 #[.int .i64 (n : Int), .slice A nl cl] w (LowTo w n nl ls) := by
  obtain ⟨cs, hcs, hmk⟩ := make_lf n hn
  have hz := zero_dig
  have hx := heap_alloc_new w (.cells cs LfT)
  have hst : Cells (w.alloc (.cells cs LfT)) w.heap.size (n * 33) (lwF (mixK 0) (mixX 0 ls)) := Cells.of_blk hx (fun p hp => by
    rw [hcs p hp]
    unfold lwF mixK mixX
    simp)
  have HST := Lib.hid hst
  have HB0 : Hid (Below w.heap.size w (w.alloc (.cells cs LfT))) := Lib.hid ((Below.refl _ _).alloc (Nat.le_refl _) _)
  have HH := Lib.hid h
  have hsz : (w.alloc (.cells cs LfT)).heap.size = w.heap.size + 1 := by simp
  obtain ⟨lk, hlk⟩ : ∃ lk, lk = w.heap.size := ⟨_, rfl⟩
  have HLK := Lib.hid hlk
  rw [← hlk] at HST
  clear h hst hx hcs hsz hlk
  go_enter Tryz.func17, Tryz.ntmps17
  go_wp2_with fail
  rw [← HLK.out]
  generalize w.alloc (.cells cs LfT) = W0 at *
  clear hmk
  go_loopg [13] n (fun gk iv W => ∃ k : Nat, iv = .int .i64 (k : Int) ∧ k + gk = n ∧ Cells W lk (n * 33) (lwF (mixK k) (mixX 0 ls)) ∧ Below w.heap.size w W)
  case atStart => exact ⟨0, rfl, by omega, HST.out, HB0.out⟩
  case round =>
    obtain ⟨k, rfl, hk, hc, hb⟩ := hrel
    have HC := Lib.hid hc
    have HB := Lib.hid hb
    clear hc hb HST HB0
    by_cases hlt : k < n
    · have c1 := HC.out.cell (k * 33) (by omega)
      have f1 := HC.out.free (k * 33) (by omega)
      have HC2 : Hid (Cells (wr.setCell ⟨lk, k * 33, none⟩ (.int .i64 (k : Int))) lk (n * 33) (lwF (mixK (k + 1)) (mixX 0 ls))) := Lib.hid ((HC.out.set_ (k := k * 33) (by omega) _).congr (fun p hp => lwF_setK k _ p))
      have HB2 : Hid (Below w.heap.size w (wr.setCell ⟨lk, k * 33, none⟩ (.int .i64 (k : Int)))) := Lib.hid (HB.out.setCell (p := ⟨lk, k * 33, none⟩) (by show w.heap.size ≤ lk; have := HLK.out; omega) _)
      generalize lwF (mixK k) (mixX 0 ls) (k * 33) = old at c1
      go_wp2_with fail
      go_roundg (n - (k + 1))
      case measure => omega
      case rel => exact ⟨k + 1, by go_num, by omega, HC2.out, HB2.out⟩
    · obtain rfl : k = n := by omega
      go_wp2_with fail
      go_loopg [24] nl (fun gk iv W => ∃ m : Nat, iv = .int .i64 (m : Int) ∧ m + gk = nl ∧ Cells W lk (k * 33) (lwF (mixK k) (mixX m ls)) ∧ Below w.heap.size w W)
      case atStart => exact ⟨0, rfl, by omega, HC.out, HB.out⟩
      case round =>
        obtain ⟨m, rfl, hm, hc, hb⟩ := hrel
        have HC2 := Lib.hid hc
        have HB2 := Lib.hid hb
        clear hc hb HC HB
        by_cases hml : m < nl
        · obtain ⟨b, o, rfl, hbl, hrg⟩ := HH.out.1 (by omega)
          obtain ⟨xd, hxd⟩ : ∃ z, z = dA (ls m) := ⟨_, rfl⟩
          have hx2 : xd.size = 32 := by rw [hxd, rowV_size]
          have HIX := Lib.hid (info_dig hx2)
          have HIXL : Hid ((Tryz.prog.info? DgT).map (·.size) = some xd.toList.length) := Lib.hid (by rw [Array.length_toList]; exact info_dig hx2)
          have HOX : Hid (xd.all (·.oneCell') = true) := Lib.hid (by rw [hxd]; exact dA_one _)
          have HZ : Hid ((zeros 32).size = xd.size) := Lib.hid (by rw [hx2]; simp [zeros])
          have HR : Hid (wr.rangeAt b (o + m * 32) xd.toList) := Lib.hid (by rw [hxd]; exact range_of (HB2.out.block b hbl) (hrg m hml))
          have hxa : xd.toList.toArray = xd := by simp
          have ho8 := heap_alloc_new wr (.cells (zeros 32) DgT)
          have HO8 := Lib.hid ho8
          obtain ⟨V8, hV8⟩ : ∃ V8, V8 = (wr.alloc (.cells (zeros 32) DgT)).setRow wr.heap.size xd := ⟨_, rfl⟩
          have hb8 : Below wr.heap.size wr V8 := by rw [hV8]; exact below_setRow (g := wr.heap.size) ((Below.refl _ _).alloc (Nat.le_refl _) _) (Nat.le_refl _) xd
          have HP8 : Hid (V8.heap[wr.heap.size]? = some (.cells xd DgT (0, 0))) := Lib.hid (by rw [hV8]; exact setRow_heap _ _ _ xd _ _ ho8)
          have hc8 := Cells.after HC2.out hb8
          have HTH : Hid (V8.there lk (m * 33 + 1) xd.size) := Lib.hid (by rw [hx2]; exact Cells.there hc8 (by omega))
          have HC9 : Hid (Cells (V8.setCells lk (m * 33 + 1) xd.toList) lk (k * 33) (lwF (mixK k) (mixX (m + 1) ls))) := Lib.hid ((hc8.sets (vs := xd.toList) (o := m * 33 + 1) (by rw [Array.length_toList, hx2]; omega)).congr (fun p hp => by
            rw [Array.length_toList, hx2, hxd]; exact lwF_setX m (mixK k) ls p))
          have HB9 : Hid (Below w.heap.size w (V8.setCells lk (m * 33 + 1) xd.toList)) := Lib.hid (below_setCells lk _ _ (HB2.out.trans (hb8.mono HB2.out.size)) (by have := HLK.out; omega))
          have HV8 := Lib.hid hV8
          have hmk2 : m < k := by omega
          clear hrg hxd hx2 ho8 hb8 hc8 hV8
          go_wp2_with (first
            | (with_reducible refine wpList_load_mid rfl DgT (.tmp 27) rfl b (o + m * 32) rfl xd.toList _ HR.out Tryz.underlying34 rfl HIXL.out ?_)
            | (with_reducible refine wpList_store_row rfl DgT (.tmp 8) (.tmp 28) rfl _ _ rfl (by simp [Act.eval, Act.put]) DgT _ HO8.out HIX.out HZ.out HOX.out ?_; rw [← HV8.out])
            | (with_reducible refine wpList_load_row rfl DgT (.tmp 8) rfl _ rfl DgT _ _ _ HP8.out Tryz.underlying34 rfl HIX.out ?_)
            | (with_reducible refine wpList_store_mid rfl DgT (.tmp 33) (.tmp 31) rfl lk (m * 33 + 1) xd rfl rfl HTH.out HIX.out HOX.out ?_))
          go_roundg (nl - (m + 1))
          case measure => omega
          case rel => exact ⟨m + 1, by go_num, by omega, HC9.out, HB9.out⟩
        · obtain rfl : m = nl := by omega
          have HEND : Hid (LowTo w k m ls (.returned (.slice (some ⟨lk, 0, none⟩) k k)) wr) := Lib.hid ⟨lk, rfl, by have := HLK.out; omega, HC2.out.lt, HB2.out, fun j hj => low_range HC2.out j hj⟩
          go_wp2_with fail
          go_ret
          exact HEND.out
end
section
open Go.RowKit Go
set_option linter.unusedVariables false
set_option linter.unusedSimpArgs false
def valsL (q : Nat → Nat) (D m : Nat) : List Value := (List.range m).map fun d => .slice (some ⟨q d, 0, none⟩) (2 ^ (D - d)) (2 ^ (D - d))
theorem valsL_len (q : Nat → Nat) (D m : Nat) : (valsL q D m).length = m := by simp [valsL]
theorem valsL_at (q : Nat → Nat) (D m d : Nat) (h : d < m) : (valsL q D m)[d]? = some (.slice (some ⟨q d, 0, none⟩) (2 ^ (D - d)) (2 ^ (D - d))) := by
  unfold valsL
  rw [List.getElem?_map, List.getElem?_range h]; rfl
def qSet (q : Nat → Nat) (m x : Nat) (d : Nat) : Nat := if d = m then x else q d
theorem valsL_snoc (q : Nat → Nat) (D m x : Nat) : valsL (qSet q m x) D (m + 1) = valsL q D m ++ [.slice (some ⟨x, 0, none⟩) (2 ^ (D - m)) (2 ^ (D - m))] := by
  unfold valsL
  rw [List.range_succ, List.map_append]
  congr 1
  · refine List.map_congr_left fun d hd => ?_
    have := List.mem_range.1 hd
    unfold qSet
    rw [if_neg (by omega)]
  · simp [qSet]
theorem rw_info : (Tryz.prog.info? 30).map (fun i => (i.zero, i.size, i.bytes)) = some (some (.slice none 0 0), 1, 24) := by kernel_rfl
theorem dg_info : (Tryz.prog.info? DgT).map (fun i => (i.zero, i.size, i.bytes)) = some (some (.agg (zeros 32)), 32, 32) := by kernel_rfl
theorem make_rw (N : Nat) (hN : N ≤ 1000) : ∃ cs : Array Value, (∀ p, p < N * 32 → cs[p]? = some (u8 0)) ∧ ∀ w, (Instr.makeSlice 30 (.int .i64 (N : Int)) (.int .i64 (N : Int))).run Tryz.prog w = .ok (.slice (some ⟨w.heap.size, 0, none⟩) N N) (w.alloc (.cells cs DgT)) := by
  obtain ⟨i, h0, h1, h2, h3⟩ := info_parts dg_info
  refine ⟨madeCells (Value.agg (zeros 32)).cells (N * 32), fun p hp => ?_, fun w => ?_⟩
  · rw [made_at _ _ _ hp]
    have e1 : (Value.agg (zeros 32)).cells = zeros 32 := rfl
    have hq : p % 32 < 32 := Nat.mod_lt _ (by omega)
    rw [e1, show (zeros 32).size = 32 by simp [zeros]]
    rw [Array.getElem!_eq_getD, Array.getD_eq_getD_getElem?]
    have e2 : (zeros 32)[p % 32]? = some (u8 0) := by
      unfold zeros
      simp [hq, u8]
    rw [e2]; rfl
  · have hr := run_make (P := Tryz.prog) w 30 DgT i _ Tryz.underlying30 h0 h1 .i64 .i64 N N (by omega) (by omega) (by rw [h3]; omega) (by omega)
    rw [hr, h2]
    simp only [Int.toNat_natCast]
theorem wp_makeTo {P : Program} {o : Oper} {a : Act} {w : World} {K : Act → World → Prop} {Q : Exit → Act → World → Prop} (t : TypeId) (x y : Operand) (ho : o.op = .makeSlice t x y) (vx vy : Value) (hx : a.eval x = vx) (hy : a.eval y = vy) (r : Value) (w' : World)
    (hr : (Instr.makeSlice t vx vy).run P w = .ok r w') (h : K (a.put o.dst r) w') : Oper.wp P o a w K Q := by
  unfold Oper.wp execOp
  simp only [ho, hx, hy, Sem.run_bind, hr, Result.andThen_ok, Sem.run_pure]
  exact h
/-- the first m levels are made -/
structure LvB (w0 : World) (T b n D m : Nat) (v : Value) (q : Nat → Nat) (W : World) : Prop where
  blk : W.heap[T]? = some (.cells #[.pointer (some ⟨b, 0, none⟩), .int .i64 (n : Int), v] TrT (0, 0))
  own : W.ownsRow w0.heap.size 30 1 v m (valsL q D m)
  lv : ∀ d, d < m → Cells W (q d) (2 ^ (D - d) * 32) (lvF fun _ => zero32L)
  fresh : ∀ d, d < m → w0.heap.size ≤ q d
  inj : ∀ d e, d < m → e < m → q d = q e → d = e
  nT : ∀ d, d < m → q d ≠ T ∧ v.ownBlock ≠ some (q d)
  vT : v.ownBlock ≠ some T
  wT : w0.heap.size ≤ T
  below : Below w0.heap.size w0 W
theorem lv_step {w0 wr w3 : World} {T b n D m ee gg cap : Nat} {v : Value} {q : Nat → Nat} {cs : Array Value} (h : LvB w0 T b n D m v q wr) (hD : D - m = ee)
    (hown : w3.ownsRow w0.heap.size 30 1 (.slice (some ⟨gg, 0, none⟩) (m + 1) cap) (m + 1) (valsL q D m ++ [.slice (some ⟨wr.heap.size, 0, none⟩) (2 ^ ee) (2 ^ ee)]))
    (hgrow : ((wr.alloc (.cells cs DgT)).alloc (.cells #[.slice (some ⟨wr.heap.size, 0, none⟩) (2 ^ ee) (2 ^ ee)] 30)).drew.grownBy w3 v.ownBlock) (hat : v.ownBlock = some gg ∨ gg = wr.heap.size + 1 + 1) (hlt : gg < w3.heap.size) (hcs : ∀ p, p < 2 ^ ee * 32 → cs[p]? = some (u8 0)) :
    w3.heap[T]? = some (.cells #[.pointer (some ⟨b, 0, none⟩), .int .i64 (n : Int), v] TrT (0, 0)) ∧ LvB w0 T b n D (m + 1) (.slice (some ⟨gg, 0, none⟩) (m + 1) cap) (qSet q m wr.heap.size) (w3.setCell ⟨T, 2, none⟩ (.slice (some ⟨gg, 0, none⟩) (m + 1) cap)) := by
  have h1 := heap_alloc_new wr (.cells cs DgT)
  have hs1 : (wr.alloc (.cells cs DgT)).heap.size = wr.heap.size + 1 := by simp
  have hs2 : ((wr.alloc (.cells cs DgT)).alloc (.cells #[.slice (some ⟨wr.heap.size, 0, none⟩) (2 ^ ee) (2 ^ ee)] 30)).drew.heap.size = wr.heap.size + 2 := by show ((wr.alloc _).alloc _).heap.size = _; simp
  have hb2 : Below wr.heap.size wr ((wr.alloc (.cells cs DgT)).alloc (.cells #[.slice (some ⟨wr.heap.size, 0, none⟩) (2 ^ ee) (2 ^ ee)] 30)).drew := (((Below.refl _ _).alloc (Nat.le_refl _) _).alloc (by simp) _).drew
  have hn1 : ((wr.alloc (.cells cs DgT)).alloc (.cells #[.slice (some ⟨wr.heap.size, 0, none⟩) (2 ^ ee) (2 ^ ee)] 30)).drew.heap[wr.heap.size]? = some (.cells cs DgT (0, 0)) := blk_alloc h1 _
  have hvo : ∀ k, v.ownBlock = some k → w0.heap.size ≤ k ∧ k < wr.heap.size := fun k hk => World.ownsRow.lt h.own k hk
  have hTl := blk_lt h.blk
  have keep : ∀ j, j < wr.heap.size + 2 → v.ownBlock ≠ some j → w3.heap[j]? = ((wr.alloc (.cells cs DgT)).alloc (.cells #[.slice (some ⟨wr.heap.size, 0, none⟩) (2 ^ ee) (2 ^ ee)] 30)).drew.heap[j]? := fun j hj hn => hgrow.block j (by rw [hs2]; exact hj) (fun e => hn e.symm)
  have hT3 : w3.heap[T]? = some (.cells #[.pointer (some ⟨b, 0, none⟩), .int .i64 (n : Int), v] TrT (0, 0)) := (keep T (by omega) h.vT).trans ((hb2.block T hTl).trans h.blk)
  have hz3 : wr.heap.size + 2 ≤ w3.heap.size := by have := hgrow.size; rw [hs2] at this; exact this
  have hq : ∀ d, d < m → q d < wr.heap.size := fun d hd => (h.lv d hd).lt
  have hgT : gg ≠ T := by
    rcases hat with e | e
    · intro c; exact h.vT (c ▸ e)
    · omega
  have hs3 : (w3.setCell ⟨T, 2, none⟩ (.slice (some ⟨gg, 0, none⟩) (m + 1) cap)).heap.size = w3.heap.size := by simp [World.setCell]
  have ho : ∀ j, j ≠ T → (w3.setCell ⟨T, 2, none⟩ (.slice (some ⟨gg, 0, none⟩) (m + 1) cap)).heap[j]? = w3.heap[j]? := fun j hj => Below.heap_setCell _ _ _ _ hj
  refine ⟨hT3, ?_, ?_, fun d hd => ?_, fun d hd => ?_, fun d e hd he hde => ?_, fun d hd => ?_, ?_, h.wT, ?_⟩
  · have := blk_set hT3 2 (.slice (some ⟨gg, 0, none⟩) (m + 1) cap)
    simpa using this
  · rw [valsL_snoc, hD]
    obtain ⟨a1, a2⟩ := hown
    refine ⟨a1, ?_⟩
    rcases a2 with a2 | ⟨g9, c9, cur, hv, hbg, hh, hr⟩
    · exact .inl a2
    · injection hv with hv _ _
      injection hv with hv
      injection hv with hv
      exact .inr ⟨g9, c9, cur, by rw [← hv]; simp_all, hbg, (ho g9 (by rw [← hv]; exact hgT)).trans hh, hr⟩
  · by_cases hdm : d = m
    · subst hdm
      rw [show qSet q d wr.heap.size d = wr.heap.size by simp [qSet], hD]
      have hc3 : w3.heap[wr.heap.size]? = some (.cells cs DgT (0, 0)) := (keep _ (by omega) (fun c => by have := (hvo _ c).2; omega)).trans hn1
      refine Cells.of_blk ((ho _ (by omega)).trans hc3) fun p hp => ?_
      rw [hcs p hp]
      unfold lvF
      rw [zero32_at]
    · have hd2 : d < m := by omega
      rw [show qSet q m wr.heap.size d = q d by unfold qSet; rw [if_neg hdm]]
      refine (h.lv d hd2).same (by rw [hs3]; omega) ?_
      exact (ho _ (h.nT d hd2).1).trans ((keep _ (by have := hq d hd2; omega) (h.nT d hd2).2).trans (hb2.block _ (hq d hd2)))
  · unfold qSet
    split
    · have := h.below.size; omega
    · exact h.fresh d (by omega)
  · unfold qSet at hde
    split at hde <;> split at hde
    · omega
    · have := hq e (by omega); omega
    · have := hq d (by omega); omega
    · exact h.inj d e (by omega) (by omega) hde
  · unfold qSet
    split
    · refine ⟨by omega, fun c => ?_⟩
      have c2 : gg = wr.heap.size := by simpa [Value.ownBlock] using c
      rcases hat with e | e
      · have := (hvo _ e).2; omega
      · omega
    · refine ⟨(h.nT d (by omega)).1, fun c => ?_⟩
      have c2 : gg = q d := by simpa [Value.ownBlock] using c
      rcases hat with e | e
      · exact (h.nT d (by omega)).2 (c2 ▸ e)
      · have := hq d (by omega); omega
  · intro c
    have c2 : gg = T := by simpa [Value.ownBlock] using c
    exact hgT c2
  · have hb3 : Below w0.heap.size w0 w3 := by
      refine (h.below.trans (hb2.mono h.below.size)).grown hgrow (by rw [hs2]; have := h.below.size; omega) (fun k hk => (hvo k hk).1)
    exact hb3.setCell (p := ⟨T, 2, none⟩) h.wT _
def zeroF : Nat → Nat → List Nat := fun _ _ => zero32L
theorem LvB.tree {w0 W : World} {T b n D : Nat} {v : Value} {q : Nat → Nat} (h : LvB w0 T b n D (D + 1) v q W) (hD : D ≤ 10) (hn : 1 ≤ n ∧ n ≤ 2 ^ D) : ∃ lb cap, v = .slice (some ⟨lb, 0, none⟩) (D + 1) cap ∧ w0.heap.size ≤ lb ∧ TrB W T b n D lb cap q zeroF := by
  obtain ⟨g, cap, hv, hb, hg, hc, hm, hx⟩ := own_at h.own (by omega)
  refine ⟨g, cap, hv, hb, ⟨by rw [← hv]; exact h.blk, fun d hd => hx d _ (valsL_at q D (D + 1) d (by omega)), hg, fun d hd => h.lv d (by omega), fun _ _ => zero32_dig, fun d e hd he hde => h.inj d e (by omega) (by omega) hde, fun d hd => ⟨(h.nT d (by omega)).1, fun c => (h.nT d (by omega)).2 (by rw [hv, c]; rfl)⟩, fun c => h.vT (by rw [hv, c]; rfl), hD, ⟨hc, hm⟩, hn⟩⟩
/-- what New leaves -/
def NewT (w : World) (b g n nl D : Nat) (ls : Nat → List Nat) (S : Nat → Prop) (e : Ending) (w' : World) : Prop :=
  ∃ (T lb cap : Nat) (q : Nat → Nat) (F : Nat → Nat → List Nat) (S' : Nat → Prop) (Tx sh : List (List Nat)), e = .returned (.tuple #[.pointer (some ⟨T, 0, none⟩), .int .i64 0]) ∧ TrB w' T b n D lb cap q F ∧ (∀ d i, d + 1 ≤ D → i < 2 ^ (D - (d + 1)) → Right F d i) ∧ (∀ i, i < 2 ^ D → F 0 i = mixX nl ls i) ∧
    IsBook w' b g S' Tx sh ∧ (∀ j, S' j → S j ∨ w.heap.size ≤ j) ∧ (∀ j, trS T lb D q j → ¬ S' j ∧ w.heap.size ≤ j) ∧ Turns S w w'
theorem dpt_le (n : Nat) (h : n ≤ 20) : dpt n ≤ 5 := by unfold dpt; split <;> (try split) <;> (try split) <;> (try split) <;> (try split) <;> omega
theorem dpt_pow (n : Nat) (h : n ≤ 20) : n ≤ 2 ^ dpt n := by
  unfold dpt
  split
  · omega
  · split
    · omega
    · split
      · omega
      · split
        · omega
        · split <;> omega
theorem leafF_id (F : Nat → Nat → List Nat) (xs : Nat → List Nat) (i : Nat) : ∀ m, i < m → leafF F (fun j => j) xs m 0 i = xs i
  | 0, h => by omega
  | m + 1, h => by
    rw [leafF]
    by_cases e : i = m
    · subst e; exact setF_same _ _ _ _
    · rw [setF_ne _ _ (fun c => e c.2)]
      exact leafF_id F xs i m (by omega)
set_option maxHeartbeats 4000000 in
set_option maxRecDepth 100000 in
theorem tnew_any (b g n cl : Nat) (A : Option Addr) (ls : Nat → List Nat) (S : Nat → Prop) (Tx sh : List (List Nat)) (w0 : World) (hbk : IsBook w0 b g S Tx sh) (hds : DgS w0 A n ls) (h1 : 1 ≤ n) (h2 : n ≤ 20) (hcl : n ≤ cl) :
    Calls Tryz.prog 5 #[.pointer (some ⟨b, 0, none⟩), .slice A n cl] w0 (NewT w0 b g n n (dpt n) ls S) := by
  obtain ⟨T, hT⟩ : ∃ T, T = w0.heap.size := ⟨_, rfl⟩
  have HTE := Lib.hid hT
  obtain ⟨W1, hW1⟩ : ∃ W1, W1 = w0.alloc (.cells #[.pointer (some ⟨b, 0, none⟩), .int .i64 (n : Int), .slice none 0 0] TrT) := ⟨_, rfl⟩
  have hblk : W1.heap[T]? = some (.cells #[.pointer (some ⟨b, 0, none⟩), .int .i64 (n : Int), .slice none 0 0] TrT (0, 0)) := by rw [hW1, hT]; exact heap_alloc_new w0 _
  have HST : Hid (LvB w0 T b n (dpt n) 0 (.slice none 0 0) (fun _ => 0) W1) := Lib.hid ⟨hblk, World.ownsRow_nil _ _ _ _, fun d hd => by omega, fun d hd => by omega, fun d e hd => by omega, fun d hd => by omega, by simp [Value.ownBlock], by omega, by rw [hW1]; exact (Below.refl _ _).alloc (Nat.le_refl _) _⟩
  have k1 : W1.cell? ⟨T, 1, none⟩ = some (.int .i64 (n : Int)) := blk_cell hblk 1
  have HW1 := Lib.hid hW1
  have HFT := Lib.hid (fun W => fits_t n W)
  have HDT := Lib.hid (fun W => depth_t n h1 h2 W)
  have hD5 := dpt_le n h2
  have HPW := Lib.hid (dpt_pow n h2)
  have hdec : decide (1 ≤ n ∧ n ≤ 1024) = true := decide_eq_true ⟨h1, by omega⟩
  rw [hdec] at HFT
  have HBK := Lib.hid hbk
  have HDS := Lib.hid hds
  have H12 := Lib.hid (And.intro h1 h2)
  generalize hDD : dpt n = D at *
  obtain ⟨i0, hi0, hz0, hz1, hz2⟩ := info_parts rw_info
  clear hT hW1 hblk hbk hds hdec hDD
  go_enter Tryz.func5, Tryz.ntmps5
  go_wp2_with fail
  refine (HFT.out _).mono ?_
  rintro e w' ⟨rfl, rfl⟩
  go_wp2_with fail
  rw [← HW1.out, ← HTE.out]
  refine (HDT.out _).mono ?_
  rintro e w' ⟨rfl, rfl⟩
  clear k1
  go_wp2_with fail
  go_loopg [7] (D + 1) (fun gk iv W => ∃ (m : Nat) (v : Value) (q : Nat → Nat), iv = .int .i64 ((D : Int) - (m : Int)) ∧ m + gk = D + 1 ∧ LvB w0 T b n D m v q W)
  case atStart => exact ⟨0, _, _, by simp, by omega, HST.out⟩
  case round =>
    obtain ⟨m, v, q, hiv, hm, hlb⟩ := hrel
    have HLB := Lib.hid hlb
    clear hlb HST
    by_cases hmD : m ≤ D
    · obtain ⟨ee, hee⟩ : ∃ e : Nat, (D : Int) - (m : Int) = (e : Int) := ⟨D - m, by omega⟩
      rw [hee] at hiv
      subst hiv
      have HDE : Hid (D - m = ee) := Lib.hid (by omega)
      have hee5 : ee ≤ 5 := by omega
      have hp32 : 2 ^ ee ≤ 32 := Nat.le_trans (Nat.pow_le_pow_right (by omega) hee5) (by decide)
      obtain ⟨zc, hzc, hmk⟩ := make_rw (2 ^ ee) (by omega)
      have HZC := Lib.hid hzc
      have HT : Hid (wr.drew.heap[T]? = some (.cells #[.pointer (some ⟨b, 0, none⟩), .int .i64 (n : Int), v] TrT (0, 0))) := Lib.hid HLB.out.blk
      have HT1 : Hid ((wr.alloc (.cells zc DgT)).drew.heap[T]? = some (.cells #[.pointer (some ⟨b, 0, none⟩), .int .i64 (n : Int), v] TrT (0, 0))) := Lib.hid (blk_alloc HLB.out.blk _)
      have HT2 : Hid (((wr.alloc (.cells zc DgT)).alloc (.cells #[.slice (some ⟨wr.heap.size, 0, none⟩) (2 ^ ee) (2 ^ ee)] 30)).drew.heap[T]? = some (.cells #[.pointer (some ⟨b, 0, none⟩), .int .i64 (n : Int), v] TrT (0, 0))) := Lib.hid (blk_alloc (blk_alloc HLB.out.blk _) _)
      have hown2 : ((wr.alloc (.cells zc DgT)).alloc (.cells #[.slice (some ⟨wr.heap.size, 0, none⟩) (2 ^ ee) (2 ^ ee)] 30)).drew.ownsRow w0.heap.size 30 1 v m (valsL q D m) := World.ownsRow.alloc (World.ownsRow.alloc HLB.out.own _) _
      have HOW := Lib.hid hown2
      have hnb : ((wr.alloc (.cells zc DgT)).alloc (.cells #[.slice (some ⟨wr.heap.size, 0, none⟩) (2 ^ ee) (2 ^ ee)] 30)).drew.heap[wr.heap.size + 1]? = some (.cells #[.slice (some ⟨wr.heap.size, 0, none⟩) (2 ^ ee) (2 ^ ee)] 30 (0, 0)) := by
        have := heap_alloc_new (wr.alloc (.cells zc DgT)) (.cells #[.slice (some ⟨wr.heap.size, 0, none⟩) (2 ^ ee) (2 ^ ee)] 30)
        rw [show (wr.alloc (.cells zc DgT)).heap.size = wr.heap.size + 1 by simp] at this
        exact this
      have HNW := Lib.hid (World.news_of_block hnb)
      have HSZ : Hid (w0.heap.size ≤ ((wr.alloc (.cells zc DgT)).alloc (.cells #[.slice (some ⟨wr.heap.size, 0, none⟩) (2 ^ ee) (2 ^ ee)] 30)).drew.heap.size) := Lib.hid (by show _ ≤ ((wr.alloc _).alloc _).heap.size; have := HLB.out.below.size; simp; omega)
      have HSE : Hid (((wr.alloc (.cells zc DgT)).alloc (.cells #[.slice (some ⟨wr.heap.size, 0, none⟩) (2 ^ ee) (2 ^ ee)] 30)).drew.heap.size = wr.heap.size + 1 + 1) := Lib.hid (by show ((wr.alloc _).alloc _).heap.size = _; simp)
      clear hzc hown2 hnb
      go_upto_region 9 with (fail)
      refine wp_region_F (S := (fun W : World => W.heap[T]? = some (.cells #[.pointer (some ⟨b, 0, none⟩), .int .i64 (n : Int), v] TrT (0, 0)))) [12] (by kernel_rfl) (HT.out) (fun hHeld => ?_)
      refine wpAnyG_take (i := 0) (oi := _) (v := ?_) rfl (by kernel_rfl) (by kernel_rfl) (by kernel_rfl) (by kernel_rfl) (by kernel_rfl) (fun _ _ _ h => h) (Or.inl ⟨by rfl, ?_⟩) (by assumption) ?_
      rotate_left 1
      · intro w hSw
        (try dsimp only at hSw)
        (first | (go_simp; done) | (go_simp; with_reducible rfl))
      (try simp only [Act.put, List.getElem_toArray, List.getElem_cons_succ, List.getElem_cons_zero, List.setIfInBounds_toArray, List.set_cons_zero, List.set_cons_succ])
      refine wpAnyG_take (i := 1) (oi := _) (v := ?_) rfl (by kernel_rfl) (by kernel_rfl) (by kernel_rfl) (by kernel_rfl) (by kernel_rfl) (fun _ _ _ h => h) (Or.inl ⟨by rfl, ?_⟩) (by assumption) ?_
      rotate_left 1
      · intro w hSw
        (try dsimp only at hSw)
        (first | (go_simp; done) | (go_simp; with_reducible rfl))
      (try simp only [Act.put, List.getElem_toArray, List.getElem_cons_succ, List.getElem_cons_zero, List.setIfInBounds_toArray, List.set_cons_zero, List.set_cons_succ])
      refine wpAnyG_take (i := 2) (oi := _) (v := ?_) rfl (by kernel_rfl) (by kernel_rfl) (by kernel_rfl) (by kernel_rfl) (by kernel_rfl) (fun _ _ _ h => h) (Or.inl ⟨by rfl, ?_⟩) (by assumption) ?_
      rotate_left 1
      · intro w hSw
        (try dsimp only at hSw)
        (first | (go_simp; done) | (go_simp; with_reducible rfl))
      (try simp only [Act.put, List.getElem_toArray, List.getElem_cons_succ, List.getElem_cons_zero, List.setIfInBounds_toArray, List.set_cons_zero, List.set_cons_succ])
      refine wpAnyG_take (i := 3) (oi := _) (v := ?_) rfl (by kernel_rfl) (by kernel_rfl) (by kernel_rfl) (by kernel_rfl) (by kernel_rfl) (fun _ _ _ h => h) (Or.inl ⟨by rfl, ?_⟩) (by assumption) ?_
      rotate_left 1
      · intro w hSw
        (try dsimp only at hSw)
        (first | (go_simp; done) | (go_simp; with_reducible rfl))
      (try simp only [Act.put, List.getElem_toArray, List.getElem_cons_succ, List.getElem_cons_zero, List.setIfInBounds_toArray, List.set_cons_zero, List.set_cons_succ])
      refine wpAnyG_take (i := 4) (oi := _) (v := _) rfl (by kernel_rfl) (by kernel_rfl) (by kernel_rfl) (by kernel_rfl) (by kernel_rfl) (fun _ _ _ h => h) (yields_cellP (by rfl) 45 (.tmp 33) rfl (T) (2) rfl (v) _ (fun W h => blk_cell h 2) Tryz.underlying45 rfl) (by assumption) ?_
      (try simp only [Act.put, List.getElem_toArray, List.getElem_cons_succ, List.getElem_cons_zero, List.setIfInBounds_toArray, List.set_cons_zero, List.set_cons_succ])
      refine wpAnyG_take (i := 5) (oi := _) (v := ?_) rfl (by kernel_rfl) (by kernel_rfl) (by kernel_rfl) (by kernel_rfl) (by kernel_rfl) (fun _ _ _ h => h) (Or.inl ⟨by rfl, ?_⟩) (by assumption) ?_
      rotate_left 1
      · intro w hSw
        (try dsimp only at hSw)
        (first | (go_simp; done) | (go_simp; with_reducible rfl))
      (try simp only [Act.put, List.getElem_toArray, List.getElem_cons_succ, List.getElem_cons_zero, List.setIfInBounds_toArray, List.set_cons_zero, List.set_cons_succ])
      refine wpAnyG_take (i := 6) (oi := _) (v := .int .i64 ((2 ^ ee : Nat) : Int)) rfl (by kernel_rfl) (by kernel_rfl) (by kernel_rfl) (by kernel_rfl) (by kernel_rfl) (fun _ _ _ h => h) (Or.inl ⟨by rfl, ?_⟩) (by assumption) ?_
      · intro w hSw
        rcases (by omega : ee = 0 ∨ ee = 1 ∨ ee = 2 ∨ ee = 3 ∨ ee = 4 ∨ ee = 5) with rfl | rfl | rfl | rfl | rfl | rfl <;> kernel_rfl
      (try simp only [Act.put, List.getElem_toArray, List.getElem_cons_succ, List.getElem_cons_zero, List.setIfInBounds_toArray, List.set_cons_zero, List.set_cons_succ])
      refine wpAnyF_ready (rs := [7]) (by kernel_rfl) (by simp) ?_
      refine AllReadyF.cons (o := _) rfl (fun K hK => ?_) AllReadyF.nil
      rw [if_pos (by kernel_rfl)]
      refine wp_makeTo 30 (.tmp 36) (.tmp 36) rfl _ _ rfl rfl _ _ (hmk _) ?_
      refine hK.out _ _ (HT1.out) (fun hHeld1 => ?_)
      clear hK K
      (try simp only [Act.put, List.getElem_toArray, List.getElem_cons_succ, List.getElem_cons_zero, List.setIfInBounds_toArray, List.set_cons_zero, List.set_cons_succ])
      refine wpAnyF_ready (rs := [8]) (by kernel_rfl) (by simp) ?_
      refine AllReadyF.cons (o := _) rfl (fun K hK => ?_) AllReadyF.nil
      go_simp
      refine hK.out _ _ (HT2.out) (fun hHeld2 => ?_)
      clear hK K
      (try simp only [Act.put, List.getElem_toArray, List.getElem_cons_succ, List.getElem_cons_zero, List.setIfInBounds_toArray, List.set_cons_zero, List.set_cons_succ])
      refine wpAnyF_ready (rs := [9]) (by kernel_rfl) (by simp) ?_
      refine AllReadyF.cons (o := _) rfl (fun K hK => ?_) AllReadyF.nil
      refine step_append_lies _ (by rfl) (.tmp 34) (.tmp 38) 45 (by rfl) w0.heap.size 30 i0 _ 1 24 Tryz.underlying45 hi0 hz0 hz1 hz2 rfl (by omega) v m (valsL q D m) (by rfl) (by exact HOW.out) ⟨wr.heap.size + 1, 0, none⟩ 1 1 [.slice (some ⟨wr.heap.size, 0, none⟩) (2 ^ ee) (2 ^ ee)] (by rfl) (by rfl) (by exact HNW.out) (by simp [Value.oneCell']) (by omega) (by unfold maxLen; omega) (by omega) (by exact HSZ.out) (wr.heap.size + 1 + 1) (by exact HSE.out) ?_
      intro gg cap w3 hown3 hgrow3 hat3 hlt3
      have hst3 := lv_step HLB.out HDE.out hown3 hgrow3 hat3 hlt3 HZC.out
      have HST3 := Lib.hid hst3
      clear hown3 hgrow3 hat3 hlt3 hst3
      refine hK.out _ _ (HST3.out.1) (fun hHeld3 => ?_)
      clear hK K
      (try simp only [Act.put, List.getElem_toArray, List.getElem_cons_succ, List.getElem_cons_zero, List.setIfInBounds_toArray, List.set_cons_zero, List.set_cons_succ])
      refine wpAnyG_take (i := 10) (oi := _) (v := ?_) rfl (by kernel_rfl) (by kernel_rfl) (by kernel_rfl) (by kernel_rfl) (by kernel_rfl) (fun _ _ _ h => h) (Or.inl ⟨by rfl, ?_⟩) (by assumption) ?_
      rotate_left 1
      · intro w hSw
        (try dsimp only at hSw)
        (first | (go_simp; done) | (go_simp; with_reducible rfl))
      (try simp only [Act.put, List.getElem_toArray, List.getElem_cons_succ, List.getElem_cons_zero, List.setIfInBounds_toArray, List.set_cons_zero, List.set_cons_succ])
      refine wpAnyG_take (i := 11) (oi := _) (v := ?_) rfl (by kernel_rfl) (by kernel_rfl) (by kernel_rfl) (by kernel_rfl) (by kernel_rfl) (fun _ _ _ h => h) (Or.inl ⟨by rfl, ?_⟩) (by assumption) ?_
      rotate_left 1
      · intro w hSw
        (try dsimp only at hSw)
        (first | (go_simp; done) | (go_simp; with_reducible rfl))
      (try simp only [Act.put, List.getElem_toArray, List.getElem_cons_succ, List.getElem_cons_zero, List.setIfInBounds_toArray, List.set_cons_zero, List.set_cons_succ])
      refine wpAnyF_ready (rs := [12]) (by kernel_rfl) (by simp) ?_
      refine AllReadyF.last (o := _) rfl (by rfl) (fun K hK => ?_) AllReadyF.nil
      have k9 := blk_cell HST3.out.1 2
      have f9 := blk_free HST3.out.1 2
      simp only [List.getElem?_toArray, List.getElem?_cons_zero, List.getElem?_cons_succ] at k9
      go_simp
      refine hK.out _ _ ?_
      clear hK K
      (try simp only [Act.put, List.getElem_toArray, List.getElem_cons_succ, List.getElem_cons_zero, List.setIfInBounds_toArray, List.set_cons_zero, List.set_cons_succ])
      refine wpAnyF_done (by kernel_rfl) ?_ _
      have HEND := Lib.hid HST3.out.2
      clear hHeld hHeld1 hHeld2 hHeld3
      go_wp2_with fail
      go_roundg (D + 1 - (m + 1))
      case measure => omega
      case rel => exact ⟨m + 1, _, _, by first | (congr 1; omega) | (have := HDE.out; congr 1; omega), by omega, HEND.out⟩
    · have hmm : m = D + 1 := by omega
      subst hmm
      have hneg : (D : Int) - ((D + 1 : Nat) : Int) = -1 := by omega
      rw [hneg] at hiv
      subst hiv
      obtain ⟨lb, cap, hv, hlb0, htr⟩ := HLB.out.tree (by omega) ⟨H12.out.1, HPW.out⟩
      subst hv
      have HTR := Lib.hid htr
      have HLO := Lib.hid (fun W (hW : Below w0.heap.size w0 W) => lowest_any (2 ^ D) n cl A ls W ⟨fun hn => (by
        obtain ⟨b9, o9, e1, e2, e3⟩ := HDS.out.1 hn
        exact ⟨b9, o9, e1, Nat.lt_of_lt_of_le e2 hW.size, fun k hk => range_of (hW.block b9 e2) (e3 k hk)⟩), HDS.out.2⟩ (Nat.le_trans (Nat.pow_le_pow_right (by omega) hD5) (by decide)) HPW.out hcl)
      have hpw : 2 ^ D ≤ 32 := Nat.le_trans (Nat.pow_le_pow_right (by omega) hD5) (by decide)
      have hpw1 : 1 ≤ 2 ^ D := Nat.one_le_two_pow
      have k2 : wr.cell? ⟨T, 2, none⟩ = some (.slice (some ⟨lb, 0, none⟩) (D + 1) cap) := htr.c2
      have k3 : wr.cell? ⟨lb, 0, none⟩ = some (.slice (some ⟨q 0, 0, none⟩) (2 ^ D) (2 ^ D)) := by have := htr.row 0 (Nat.zero_le _); rw [Nat.sub_zero] at this; exact this
      have HBW := Lib.hid HLB.out.below
      have HFR : Hid (∀ j, trS T lb D q j → w0.heap.size ≤ j) := Lib.hid (fun j hj => by
        rcases hj with rfl | rfl | ⟨d, hd, rfl⟩
        · exact HLB.out.wT
        · exact hlb0
        · exact HLB.out.fresh d (by omega))
      obtain ⟨N, hN⟩ : ∃ N, N = 2 ^ D := ⟨_, rfl⟩
      have HN := Lib.hid hN
      rw [← hN] at HLO k3 hpw hpw1
      clear htr hlb0 hN HLB
      go_wp2_with fail
      refine (HLO.out _ HBW.out).mono ?_
      rintro e W5 ⟨lk, rfl, hlk1, hlk2, hb5, hrg⟩
      have hbw5 : Below w0.heap.size w0 W5 := HBW.out.trans (hb5.mono HBW.out.size)
      have hbk5 : IsBook W5 b g S Tx sh := HBK.out.keep (fun j hj => hbw5.block j (HBK.out.sub hj)) (fun _ x => x) (fun k hk => Nat.lt_of_lt_of_le (HBK.out.sub hk) hbw5.size)
      have hPUT := tput_any T b g n D lb cap lk 0 N N q zeroF (fun j => j) (mixX n ls) S Tx sh W5 (HTR.out.next hb5) hbk5 (fun j hj c => by have := HBK.out.sub c; have := HFR.out j hj; omega) hrg ⟨hlk2, fun c => by have := HBK.out.sub c; have := HBW.out.size; omega, fun d hd c => by have := HTR.out.lt (j := q d) (.inr (.inr ⟨d, hd, rfl⟩)); omega⟩ (by omega) (Nat.le_refl _) (fun j hj => by rw [HN.out] at hj; exact hj)
        (fun j hj => by unfold mixX; split; (· exact HDS.out.2 j); (· exact zero32_dig))
        (fun d i hd hi => .inr ⟨i * 2 ^ (d + 1), by
          rw [HN.out]
          have e1 : 2 ^ D = 2 ^ (D - (d + 1)) * 2 ^ (d + 1) := by rw [← Nat.pow_add]; congr 1; omega
          rw [e1]
          exact Nat.mul_lt_mul_of_pos_right hi (Nat.two_pow_pos _), by rw [Nat.mul_div_cancel _ (Nat.two_pow_pos _)]⟩)
      have HPUT := Lib.hid hPUT
      have HBW5 := Lib.hid hbw5
      clear hPUT hbk5 hbw5 hb5 hrg hlk1 hlk2 k2 k3
      go_wp2_with fail
      refine HPUT.out.mono ?_
      rintro e W6 ⟨c, F', S', Tx', sh', rfl, htr6, hr6, hf6, hbk6, hs6, ha6, ht6⟩
      have HFIN : Hid (NewT w0 b g n n D ls S (.returned (.tuple #[.pointer (some ⟨T, 0, none⟩), .int .i64 0])) W6) := Lib.hid ⟨T, lb, cap, q, F', S', Tx', sh', rfl, htr6, hr6, fun i hi => by
        rw [hf6 i]
        exact leafF_id _ _ i N (by rw [HN.out]; exact hi), hbk6, fun j hj => by
          rcases hs6 j hj with x | x
          · exact .inl x
          · exact .inr (Nat.le_trans HBW5.out.size x), fun j hj => ⟨ha6 j hj, HFR.out j hj⟩, by
          refine ⟨ht6.os.trans HBW5.out.os, ht6.tape.trans HBW5.out.tape, ht6.output.trans HBW5.out.output, Nat.le_trans HBW5.out.size ht6.size, fun j hj hn => (ht6.block j (Nat.lt_of_lt_of_le hj HBW5.out.size) (fun x => ?_)).trans (HBW5.out.block j hj)⟩
          rcases x with x | ⟨d, hd, x⟩
          · exact hn x
          · have := HFR.out j (.inr (.inr ⟨d, hd, x⟩)); omega⟩
      clear htr6 hr6 hf6 hbk6 hs6 ha6 ht6
      go_wp2_with fail
      exact bodyPost_ret (v := .tuple #[.pointer (some ⟨T, 0, none⟩), .int .i64 0]) (by simp [results, Tryz.results5, go_sem]) rfl HFIN.out
end
section
open Go.RowKit Go
set_option linter.unusedVariables false
set_option linter.unusedSimpArgs false
/-- the sums of leaves, level by level -/
def treeAt (f : Nat → List Nat) : Nat → Nat → List Nat
  | 0, i => f i
  | d + 1, i => Sha.sum (nodeT (d + 1) i (treeAt f d (2 * i)) (treeAt f d (2 * i + 1)))
theorem treeAt_dig {f : Nat → List Nat} (h : ∀ i, IsDig (f i)) : ∀ d i, IsDig (treeAt f d i)
  | 0, i => h i
  | d + 1, i => bk_dig _
theorem right_tree {D : Nat} {F : Nat → Nat → List Nat} {f : Nat → List Nat} (hr : ∀ d i, d + 1 ≤ D → i < 2 ^ (D - (d + 1)) → Right F d i) (h0 : ∀ i, i < 2 ^ D → F 0 i = f i) : ∀ d i, d ≤ D → i < 2 ^ (D - d) → F d i = treeAt f d i
  | 0, i, _, hi => h0 i hi
  | d + 1, i, hd, hi => by
    have e : 2 ^ (D - d) = 2 * 2 ^ (D - (d + 1)) := by rw [show D - d = (D - (d + 1)) + 1 by omega, Nat.pow_succ]; omega
    rw [hr d i hd hi, treeAt, right_tree hr h0 d (2 * i) (by omega) (by omega), right_tree hr h0 d (2 * i + 1) (by omega) (by omega)]
theorem putL_one (k : Nat) (h : k < 256) : putL 1 k = [k] := by
  unfold putL
  simp
  omega
theorem nodeT_doc (l i : Nat) (x y : List Nat) (h : l < 256) : txt 1 [[l], putL 4 i, x, y] = nodeT l i x y := by unfold nodeT; rw [putL_one l h]
theorem mixX_dig (nl : Nat) {ls : Nat → List Nat} (h : ∀ i, IsDig (ls i)) (i : Nat) : IsDig (mixX nl ls i) := by
  unfold mixX
  split
  · exact h i
  · exact zero32_dig
set_option maxHeartbeats 4000000 in
set_option maxRecDepth 100000 in
theorem troot_m (T b g n D lb cap : Nat) (q : Nat → Nat) (F : Nat → Nat → List Nat) (S : Nat → Prop) (Tx sh : List (List Nat)) (w : World) (h : TrB w T b n D lb cap q F) (hbk : IsBook w b g S Tx sh) (hTS : ¬ S T) (hn : n ≤ 2 ^ 20) :
    Calls Tryz.prog 9 #[.pointer (some ⟨T, 0, none⟩)] w (SumTo w b g S Tx sh (txt 2 [putL 4 n, F D 0])) := by
  have hz := zero_dig
  obtain ⟨V, hV⟩ : ∃ V, V = w.alloc (.cells (zeros 32) 34) := ⟨_, rfl⟩
  have hb1 : Below w.heap.size w V := by rw [hV]; exact (Below.refl _ _).alloc (Nat.le_refl _) _
  have h1 := h.next hb1
  have HT := Lib.hid h1.blk
  have HR0 : Hid (V.heap[w.heap.size]? = some (.cells (zeros 32) 34 (0, 0))) := Lib.hid (by rw [hV]; exact heap_alloc_new w _)
  have HN := Lib.hid (tnone_any T b n D lb cap q F V h1)
  have HDP := Lib.hid (fun W (hW : Below V.heap.size V W) => tdepth_any T b n D lb cap q F W (h1.next hW))
  have HND := Lib.hid (fun W (hW : Below V.heap.size V W) => tnode_in T b n D lb cap D 0 q F W (h1.next hW) (Nat.le_refl _) (by simp))
  rw [show ((0 : Nat) : Int) = 0 from rfl] at HND
  have HRT := Lib.hid (fun W (hW : Below V.heap.size V W) => troot_any b g n (F D 0) S Tx sh W (hbk.below (hb1.trans (hW.mono hb1.size))) (by omega) (h.dig D 0))
  have HSUB : Hid (∀ j, S j → j < w.heap.size) := Lib.hid (fun j hj => hbk.sub hj)
  have HB1 := Lib.hid hb1
  have HTS := Lib.hid hTS
  have HTL := Lib.hid (blk_lt h.blk)
  obtain ⟨xd, hxd⟩ : ∃ z, z = dA (F D 0) := ⟨_, rfl⟩
  have HXD := Lib.hid hxd
  rw [← hxd] at HND
  obtain ⟨da, hda⟩ : ∃ da, da = digA (txt 2 [putL 4 n, F D 0]) := ⟨_, rfl⟩
  have hda2 : da.size = 32 := by rw [hda]; unfold digA; rw [rowV_size]
  have HIA := Lib.hid (info_dig hda2)
  have HO : Hid (da.all (·.oneCell') = true) := Lib.hid (by rw [hda]; exact one_dig _)
  have HZ : Hid ((zeros 32).size = da.size) := Lib.hid (by rw [hda2]; simp [zeros])
  have HDA := Lib.hid hda
  have HV := Lib.hid hV
  clear h h1 hbk hb1 hV hxd hda hda2 hTS
  go_enter Tryz.func9, Tryz.ntmps9
  go_wp2_with fail
  rw [← HV.out]
  refine HN.out.mono ?_
  rintro e w' ⟨rfl, rfl⟩
  go_upto_region 3 with (fail)
  refine wp_region_F (S := (fun W : World => W.heap[T]? = some (.cells #[.pointer (some ⟨b, 0, none⟩), .int .i64 (n : Int), .slice (some ⟨lb, 0, none⟩) (D + 1) cap] TrT (0, 0)))) [] (by kernel_rfl) (HT.out) (fun hHeld => ?_)
  refine wpAnyF_take (i := 0) (oi := _) (v := ?_) rfl (by kernel_rfl) (by kernel_rfl) (by kernel_rfl) (by kernel_rfl) (fun _ _ _ h => h) (Or.inl ⟨by rfl, ?_⟩) (by assumption) ?_
  rotate_left 1
  · intro w hSw
    (try dsimp only at hSw)
    (first | (go_simp; done) | (go_simp; with_reducible rfl))
  (try simp only [Act.put, List.getElem_toArray, List.getElem_cons_succ, List.getElem_cons_zero, List.setIfInBounds_toArray, List.set_cons_zero, List.set_cons_succ])
  refine wpAnyF_take (i := 1) (oi := _) (v := ?_) rfl (by kernel_rfl) (by kernel_rfl) (by kernel_rfl) (by kernel_rfl) (fun _ _ _ h => h) (Or.inl ⟨by rfl, ?_⟩) (by assumption) ?_
  rotate_left 1
  · intro w hSw
    (try dsimp only at hSw)
    (first | (go_simp; done) | (go_simp; with_reducible rfl))
  (try simp only [Act.put, List.getElem_toArray, List.getElem_cons_succ, List.getElem_cons_zero, List.setIfInBounds_toArray, List.set_cons_zero, List.set_cons_succ])
  refine wpAnyF_take (i := 2) (oi := _) (v := ?_) rfl (by kernel_rfl) (by kernel_rfl) (by kernel_rfl) (by kernel_rfl) (fun _ _ _ h => h) (Or.inl ⟨by rfl, ?_⟩) (by assumption) ?_
  rotate_left 1
  · intro w hSw
    (try dsimp only at hSw)
    (first | (go_simp; done) | (go_simp; with_reducible rfl))
  (try simp only [Act.put, List.getElem_toArray, List.getElem_cons_succ, List.getElem_cons_zero, List.setIfInBounds_toArray, List.set_cons_zero, List.set_cons_succ])
  refine wpAnyF_take (i := 3) (oi := _) (v := _) rfl (by kernel_rfl) (by kernel_rfl) (by kernel_rfl) (by kernel_rfl) (fun _ _ _ h => h) (yields_cellP (by rfl) 28 (.tmp 8) rfl (T) (0) rfl (.pointer (some ⟨b, 0, none⟩)) _ (fun W h => blk_cell h 0) Tryz.underlying28 rfl) (by assumption) ?_
  (try simp only [Act.put, List.getElem_toArray, List.getElem_cons_succ, List.getElem_cons_zero, List.setIfInBounds_toArray, List.set_cons_zero, List.set_cons_succ])
  refine wpAnyF_take (i := 4) (oi := _) (v := ?_) rfl (by kernel_rfl) (by kernel_rfl) (by kernel_rfl) (by kernel_rfl) (fun _ _ _ h => h) (Or.inl ⟨by rfl, ?_⟩) (by assumption) ?_
  rotate_left 1
  · intro w hSw
    (try dsimp only at hSw)
    (first | (go_simp; done) | (go_simp; with_reducible rfl))
  (try simp only [Act.put, List.getElem_toArray, List.getElem_cons_succ, List.getElem_cons_zero, List.setIfInBounds_toArray, List.set_cons_zero, List.set_cons_succ])
  refine wpAnyF_take (i := 5) (oi := _) (v := ?_) rfl (by kernel_rfl) (by kernel_rfl) (by kernel_rfl) (by kernel_rfl) (fun _ _ _ h => h) (Or.inl ⟨by rfl, ?_⟩) (by assumption) ?_
  rotate_left 1
  · intro w hSw
    (try dsimp only at hSw)
    (first | (go_simp; done) | (go_simp; with_reducible rfl))
  (try simp only [Act.put, List.getElem_toArray, List.getElem_cons_succ, List.getElem_cons_zero, List.setIfInBounds_toArray, List.set_cons_zero, List.set_cons_succ])
  refine wpAnyF_take (i := 6) (oi := _) (v := ?_) rfl (by kernel_rfl) (by kernel_rfl) (by kernel_rfl) (by kernel_rfl) (fun _ _ _ h => h) (Or.inl ⟨by rfl, ?_⟩) (by assumption) ?_
  rotate_left 1
  · intro w hSw
    (try dsimp only at hSw)
    (first | (go_simp; done) | (go_simp; with_reducible rfl))
  (try simp only [Act.put, List.getElem_toArray, List.getElem_cons_succ, List.getElem_cons_zero, List.setIfInBounds_toArray, List.set_cons_zero, List.set_cons_succ])
  refine wpAnyF_take (i := 7) (oi := _) (v := _) rfl (by kernel_rfl) (by kernel_rfl) (by kernel_rfl) (by kernel_rfl) (fun _ _ _ h => h) (yields_cellP (by rfl) 3 (.tmp 12) rfl (T) (1) rfl (.int .i64 (n : Int)) _ (fun W h => blk_cell h 1) Tryz.underlying3 rfl) (by assumption) ?_
  (try simp only [Act.put, List.getElem_toArray, List.getElem_cons_succ, List.getElem_cons_zero, List.setIfInBounds_toArray, List.set_cons_zero, List.set_cons_succ])
  refine wpAnyF_take (i := 8) (oi := _) (v := ?_) rfl (by kernel_rfl) (by kernel_rfl) (by kernel_rfl) (by kernel_rfl) (fun _ _ _ h => h) (Or.inl ⟨by rfl, ?_⟩) (by assumption) ?_
  rotate_left 1
  · intro w hSw
    (try dsimp only at hSw)
    (first | (go_simp; done) | (go_simp; with_reducible rfl))
  (try simp only [Act.put, List.getElem_toArray, List.getElem_cons_succ, List.getElem_cons_zero, List.setIfInBounds_toArray, List.set_cons_zero, List.set_cons_succ])
  refine wpAnyF_take (i := 9) (oi := _) (v := ?_) rfl (by kernel_rfl) (by kernel_rfl) (by kernel_rfl) (by kernel_rfl) (fun _ _ _ h => h) (Or.inl ⟨by rfl, ?_⟩) (by assumption) ?_
  rotate_left 1
  · intro w hSw
    (try dsimp only at hSw)
    (first | (go_simp; done) | (go_simp; with_reducible rfl))
  (try simp only [Act.put, List.getElem_toArray, List.getElem_cons_succ, List.getElem_cons_zero, List.setIfInBounds_toArray, List.set_cons_zero, List.set_cons_succ])
  refine wpAnyF_ready (rs := [10]) (by kernel_rfl) (by simp) ?_
  refine AllReadyF.cons (o := _) rfl (fun K hK => ?_) AllReadyF.nil
  go_simp
  refine (HDP.out _ ((Below.refl _ _).drew)).mono ?_
  rintro e w5 ⟨rfl, rfl⟩
  refine hK.out _ _ (hHeld) (fun hHeld1 => ?_)
  clear hK K
  (try simp only [Act.put, List.getElem_toArray, List.getElem_cons_succ, List.getElem_cons_zero, List.setIfInBounds_toArray, List.set_cons_zero, List.set_cons_succ])
  refine wpAnyF_ready (rs := [11]) (by kernel_rfl) (by simp) ?_
  refine AllReadyF.cons (o := _) rfl (fun K hK => ?_) AllReadyF.nil
  go_simp
  refine (HND.out _ ((Below.refl _ _).drew)).mono ?_
  rintro e w6 ⟨rfl, hb6⟩
  have HB6 : Hid (Below V.heap.size V w6) := Lib.hid (((Below.refl _ _).drew).trans hb6)
  clear hb6
  refine hK.out _ _ ((HB6.out.block _ (blk_lt HT.out)).trans HT.out) (fun hHeld2 => ?_)
  clear hK K
  (try simp only [Act.put, List.getElem_toArray, List.getElem_cons_succ, List.getElem_cons_zero, List.setIfInBounds_toArray, List.set_cons_zero, List.set_cons_succ])
  refine wpAnyF_ready (rs := [12]) (by kernel_rfl) (by simp) ?_
  refine AllReadyF.cons (o := _) rfl (fun K hK => ?_) AllReadyF.nil
  go_simp
  rw [HXD.out]
  refine (HRT.out _ HB6.out).mono ?_
  intro e w9 hsum
  have he := hsum.1
  have HT9 := Lib.hid hsum.2.1
  obtain ⟨hx9, hse⟩ := sum_last (HB1.out.trans (HB6.out.mono HB1.out.size)) (Nat.le_refl _) ((HB6.out.block _ (blk_lt HR0.out)).trans HR0.out) hsum HSUB.out
  subst he
  rw [← HDA.out] at hse ⊢
  have HX9 := Lib.hid hx9
  have HSE := Lib.hid hse
  have HFX := Lib.hid (setRow_heap w9 _ _ da _ _ hx9)
  have HTT : Hid (w9.heap[T]? = some (.cells #[.pointer (some ⟨b, 0, none⟩), .int .i64 (n : Int), .slice (some ⟨lb, 0, none⟩) (D + 1) cap] TrT (0, 0))) := Lib.hid ((HT9.out.block _ (Nat.lt_of_lt_of_le (blk_lt HT.out) HB6.out.size) (fun q => HTS.out q)).trans ((HB6.out.block _ (blk_lt HT.out)).trans HT.out))
  clear hsum hx9 hse
  refine hK.out _ _ (HTT.out) (fun hHeld3 => ?_)
  clear hK K
  (try simp only [Act.put, List.getElem_toArray, List.getElem_cons_succ, List.getElem_cons_zero, List.setIfInBounds_toArray, List.set_cons_zero, List.set_cons_succ])
  refine wpAnyF_ready (rs := [13]) (by kernel_rfl) (by simp) ?_
  refine AllReadyF.cons (o := _) rfl (fun K hK => ?_) AllReadyF.nil
  rw [if_pos (by kernel_rfl)]
  refine wp_store_row 34 (.tmp 2) (.tmp 18) rfl (w.heap.size) da rfl rfl 34 (zeros 32) HX9.out HIA.out HZ.out HO.out ?_
  refine hK.out _ _ ((setRow_other w9 _ _ _ (by have := HTL.out; omega)).trans HTT.out) (fun hHeld4 => ?_)
  clear hK K
  (try simp only [Act.put, List.getElem_toArray, List.getElem_cons_succ, List.getElem_cons_zero, List.setIfInBounds_toArray, List.set_cons_zero, List.set_cons_succ])
  refine wpAnyF_done (by kernel_rfl) ?_ _
  (try go_wp2_with fail)
  exact bodyPost_ret (v := .agg da) (results_cell_row rfl _ _ _ 34 _ (0, 0) _ rfl HFX.out Tryz.underlying34 rfl HIA.out) rfl HSE.out
/-- what a new book is -/
def BookTo (w : World) (e : Ending) (w' : World) : Prop := ∃ (b g : Nat) (S : Nat → Prop), e = .returned (.pointer (some ⟨b, 0, none⟩)) ∧ IsBook w' b g S [] [] ∧ (∀ j, S j → w.heap.size ≤ j) ∧ Below w.heap.size w w'
theorem book12_any (w : World) : Calls Tryz.prog 6 #[] w (BookTo w) := by
  go_enter Tryz.func6, Tryz.ntmps6
  go_wp2_with fail
  refine (make_any _).mono ?_
  rintro e w1 ⟨rfl, hb1, ht1⟩
  have HB1 := Lib.hid hb1
  have HT1 := Lib.hid ht1
  clear hb1 ht1
  go_wp2_with fail
  refine (bk_new w.heap.size w1 HT1.out).mono ?_
  rintro e w2 ⟨b, rfl, hbl, hb2, hk2⟩
  have HE : Hid (BookTo w (.returned (.pointer (some ⟨b, 0, none⟩))) w2) := Lib.hid ⟨b, w.heap.size, _, rfl, hk2, fun k hk => by have := HB1.out.size; omega, HB1.out.trans (hb2.mono HB1.out.size)⟩
  clear hb2 hk2
  go_wp2_with fail
  go_ret
  exact HE.out
theorem dpt_of {n k : Nat} (h1 : ∀ j, j < k → 2 ^ j < n) (h2 : n ≤ 2 ^ k) (hn : n ≤ 20) : k = dpt n := by
  have hk : k ≤ 5 := by
    rcases Nat.lt_or_ge 5 k with c | c
    · have := h1 5 c; omega
    · exact c
  have q0 := h1 0; have q1 := h1 1; have q2 := h1 2; have q3 := h1 3; have q4 := h1 4
  unfold dpt
  rcases (by omega : k = 0 ∨ k = 1 ∨ k = 2 ∨ k = 3 ∨ k = 4 ∨ k = 5) with rfl | rfl | rfl | rfl | rfl | rfl <;> simp at * <;> (repeat' split) <;> omega
set_option maxRecDepth 100000 in
theorem rdepth_any (n : Nat) (hn : n ≤ 20) (w : World) : Calls Tryz.prog 12 #[.int .i64 (n : Int)] w fun e w' => e = .returned (.int .i64 (dpt n : Int)) ∧ w = w' := by
  go_enter Tryz.func12, Tryz.ntmps12
  go_wp2
  go_loopg [3, 4] 6 (fun gk kv wv W => ∃ k P : Nat, kv = .int .i64 (k : Int) ∧ wv = .int .i64 (P : Int) ∧ P = 2 ^ k ∧ k + gk = 6 ∧ (∀ j, j < k → 2 ^ j < n) ∧ W = w)
  case atStart => exact ⟨0, 1, rfl, rfl, rfl, rfl, fun j hj => by omega, rfl⟩
  case round =>
    obtain ⟨k, P, rfl, rfl, hP, hk, hj, rfl⟩ := hrel
    have HP := Lib.hid hP
    have HJ := Lib.hid hj
    have hk5 : k ≤ 6 := by omega
    have hPb : P ≤ 64 := by rw [hP]; exact Nat.le_trans (Nat.pow_le_pow_right (by omega) hk5) (by decide)
    clear hP hj
    by_cases hlt : P < n
    · have h5 : k < 5 := by
        rcases Nat.lt_or_ge k 5 with c | c
        · exact c
        · have h1 := HP.out
          have h2 : 2 ^ 5 ≤ 2 ^ k := Nat.pow_le_pow_right (by omega) c
          omega
      go_wp2_with fail
      go_roundg (6 - (k + 1))
      case measure => omega
      case rel => exact ⟨k + 1, 2 * P, by go_num, by go_num, by rw [HP.out, Nat.pow_succ]; omega, by omega, fun j hj => by
        by_cases e : j = k
        · subst e; rw [← HP.out]; exact hlt
        · exact HJ.out j (by omega), rfl⟩
    · have hkd : k = dpt n := dpt_of HJ.out (by rw [← HP.out]; omega) hn
      have HKD := Lib.hid hkd
      clear hkd
      go_wp2_with fail
      go_ret
      exact ⟨by rw [HKD.out]; rfl, rfl⟩
def RAtTo (w : World) (nl : Nat) (ls : Nat → List Nat) (d i : Nat) (e : Ending) (w' : World) : Prop := e = .returned (.agg (dA (treeAt (mixX nl ls) d i))) ∧ Below w.heap.size w w'
set_option maxHeartbeats 4000000 in
set_option maxRecDepth 100000 in
theorem rat_any (nl cl : Nat) (A : Option Addr) (ls : Nat → List Nat) (hnl : nl ≤ 20) (hcl : nl ≤ cl) : ∀ (d i : Nat), (i + 1) * 2 ^ d ≤ 1024 → d ≤ 10 → ∀ (w : World), DgS w A nl ls →
    Calls Tryz.prog 42 #[.slice A nl cl, .int .i64 (d : Int), .int .i64 (i : Int)] w (RAtTo w nl ls d i) := by
  intro d
  induction d with
  | zero =>
    intro i hi hd w h
    have hz := zero32
    have hi1000 : i ≤ 1024 := by simp at hi; omega
    have hb1 : Below w.heap.size w (w.alloc (.cells (zeros 32) 33)) := (Below.refl _ _).alloc (Nat.le_refl _) _
    have HX := Lib.hid (heap_alloc_new w (.cells (zeros 32) 33))
    have HB1 := Lib.hid hb1
    obtain ⟨xd, hxd⟩ : ∃ z, z = dA (mixX nl ls i) := ⟨_, rfl⟩
    have hx2 : xd.size = 32 := by rw [hxd, rowV_size]
    have HI := Lib.hid (info_d32 hx2)
    have HIL : Hid ((Tryz.prog.info? 33).map (·.size) = some xd.toList.length) := Lib.hid (by rw [Array.length_toList]; exact info_d32 hx2)
    have HO : Hid (xd.all (·.oneCell') = true) := Lib.hid (by rw [hxd]; exact dA_one _)
    have HZ : Hid ((zeros 32).size = xd.size) := Lib.hid (by rw [hx2]; simp [zeros])
    have HFX := Lib.hid (setRow_heap _ _ _ xd _ _ (heap_alloc_new w (.cells (zeros 32) 33)))
    have HFB := Lib.hid (below_setRow (g := w.heap.size) hb1 (Nat.le_refl _) xd)
    have hxa : xd.toList.toArray = xd := by simp
    have HXD := Lib.hid hxd
    have hgoal : RAtTo w nl ls 0 i = fun e w' => e = .returned (.agg xd) ∧ Below w.heap.size w w' := by unfold RAtTo; rw [hxd]; rfl
    rw [show ((0 : Nat) : Int) = 0 from rfl, hgoal]
    by_cases hlt : i < nl
    · obtain ⟨b, o, hA, hbl, hrg⟩ := h.1 (by omega)
      subst hA
      have HR : Hid ((w.alloc (.cells (zeros 32) 33)).rangeAt b (o + i * 32) xd.toList) := Lib.hid (by rw [hxd]; unfold mixX; rw [if_pos hlt]; exact range_of (hb1.block b hbl) (hrg i hlt))
      clear h hb1 hxd hx2 hgoal hrg
      go_enter Tryz.func42, Tryz.ntmps42
      go_wp2_with (first
        | (with_reducible refine wpList_load_mid rfl 33 (.tmp 17) rfl b (o + i * 32) rfl xd.toList _ HR.out Tryz.underlying33 rfl HIL.out ?_)
        | (with_reducible refine wpList_store_row rfl 33 (.tmp 6) (.tmp 18) rfl _ _ rfl (by simp [Act.eval, Act.put]) 33 _ HX.out HI.out HZ.out HO.out ?_))
      exact bodyPost_ret (v := .agg xd) (results_cell_row rfl _ _ _ 33 _ (0, 0) _ rfl HFX.out Tryz.underlying33 rfl HI.out) rfl ⟨rfl, HFB.out⟩
    · have hxz : xd = zeros 32 := by
        rw [hxd]; unfold mixX; rw [if_neg hlt]; kernel_rfl
      subst hxz
      have HO2 : Hid ((zeros 32).all (·.oneCell') = true) := Lib.hid (by kernel_rfl)
      clear h hb1 hx2 hgoal hxd hxa
      go_enter Tryz.func42, Tryz.ntmps42
      go_wp2_with (with_reducible refine wpList_store_row rfl 33 (.tmp 6) (.tmp 21) rfl _ _ rfl rfl 33 _ HX.out HI.out rfl HO2.out ?_)
      exact bodyPost_ret (v := .agg (zeros 32)) (results_cell_row rfl _ _ _ 33 _ (0, 0) _ rfl HFX.out Tryz.underlying33 rfl HI.out) rfl ⟨rfl, HFB.out⟩
  | succ d ih =>
    intro i hi hd w h
    have hz := zero32
    have h2d : 1 ≤ 2 ^ d := Nat.one_le_two_pow
    have e2 : 2 ^ (d + 1) = 2 * 2 ^ d := by rw [Nat.pow_succ]; omega
    have hm1 : (2 * i + 1) * 2 ^ d ≤ 1024 := by
      have e : (i + 1) * (2 * 2 ^ d) = (2 * i + 1) * 2 ^ d + 2 ^ d := by rw [← Nat.mul_assoc, Nat.add_mul i 1 2, Nat.mul_comm i 2, show 2 * i + 1 * 2 = (2 * i + 1) + 1 by omega, Nat.add_mul (2 * i + 1) 1, Nat.one_mul]
      rw [e2, e] at hi; omega
    have hm2 : (2 * i + 1 + 1) * 2 ^ d ≤ 1024 := by
      have e : (i + 1) * (2 * 2 ^ d) = (2 * i + 1 + 1) * 2 ^ d := by rw [← Nat.mul_assoc, Nat.add_mul i 1 2, Nat.mul_comm i 2, show 2 * i + 1 * 2 = (2 * i + 1) + 1 by omega]
      rw [e2, e] at hi; exact hi
    have hi1000 : i ≤ 1024 := by
      have h1 : (i + 1) * 1 ≤ (i + 1) * 2 ^ (d + 1) := Nat.mul_le_mul_left _ Nat.one_le_two_pow
      omega
    obtain ⟨W0, hW0⟩ : ∃ W0, W0 = w.alloc (.cells (zeros 32) 33) := ⟨_, rfl⟩
    have hb1 : Below w.heap.size w W0 := by rw [hW0]; exact (Below.refl _ _).alloc (Nat.le_refl _) _
    have HX : Hid (W0.heap[w.heap.size]? = some (.cells (zeros 32) 33 (0, 0))) := Lib.hid (by rw [hW0]; exact heap_alloc_new w _)
    have HB1 := Lib.hid hb1
    have HI1 := Lib.hid (fun W (hW : Below w.heap.size w W) => ih (2 * i) hm1 (by omega) W (h.below hW))
    have HI2 := Lib.hid (fun W (hW : Below w.heap.size w W) => ih (2 * i + 1) hm2 (by omega) W (h.below hW))
    rw [show ((2 * i : Nat) : Int) = 2 * (i : Int) by omega] at HI1
    rw [show ((2 * i + 1 : Nat) : Int) = 2 * (i : Int) + 1 by omega] at HI2
    have hdg : ∀ k j, IsDig (treeAt (mixX nl ls) k j) := treeAt_dig (mixX_dig nl h.2)
    have HRN := Lib.hid (fun W => rnode_any (d + 1) i (treeAt (mixX nl ls) d (2 * i)) (treeAt (mixX nl ls) d (2 * i + 1)) W (by omega) (by omega) (hdg _ _) (hdg _ _))
    rw [show ((d + 1 : Nat) : Int) = (d : Int) + 1 by omega] at HRN ⊢
    rw [nodeT_doc (d + 1) i _ _ (by omega)] at HRN
    obtain ⟨da, hda⟩ : ∃ da, da = digA (nodeT (d + 1) i (treeAt (mixX nl ls) d (2 * i)) (treeAt (mixX nl ls) d (2 * i + 1))) := ⟨_, rfl⟩
    have hda2 : da.size = 32 := by rw [hda]; unfold digA; rw [rowV_size]
    have hgoal : RAtTo w nl ls (d + 1) i = fun e w' => e = .returned (.agg da) ∧ Below w.heap.size w w' := by unfold RAtTo; rw [hda]; rfl
    have HI := Lib.hid (info_d32 hda2)
    have HO : Hid (da.all (·.oneCell') = true) := Lib.hid (by rw [hda]; exact one_dig _)
    have HZ : Hid ((zeros 32).size = da.size) := Lib.hid (by rw [hda2]; simp [zeros])
    rw [← hda] at HRN
    rw [hgoal]
    obtain ⟨x1, hx1⟩ : ∃ z, z = dA (treeAt (mixX nl ls) d (2 * i)) := ⟨_, rfl⟩
    obtain ⟨x2, hx2⟩ : ∃ z, z = dA (treeAt (mixX nl ls) d (2 * i + 1)) := ⟨_, rfl⟩
    have HI1' : Hid (∀ W, Below w.heap.size w W → Calls Tryz.prog 42 #[.slice A nl cl, .int .i64 (d : Int), .int .i64 (2 * (i : Int))] W fun e w' => e = .returned (.agg x1) ∧ Below W.heap.size W w') := Lib.hid (fun W hW => by rw [hx1]; exact HI1.out W hW)
    have HI2' : Hid (∀ W, Below w.heap.size w W → Calls Tryz.prog 42 #[.slice A nl cl, .int .i64 (d : Int), .int .i64 (2 * (i : Int) + 1)] W fun e w' => e = .returned (.agg x2) ∧ Below W.heap.size W w') := Lib.hid (fun W hW => by rw [hx2]; exact HI2.out W hW)
    rw [← hx1, ← hx2] at HRN
    have hne : (((d : Int) + 1) == 0) = false := by rw [beq_eq_false_iff_ne]; omega
    have HW0 := Lib.hid hW0
    clear ih h hb1 hdg hda hda2 hgoal hx1 hx2 HI1 HI2 hW0 hi hm1 hm2 e2 h2d
    go_enter Tryz.func42, Tryz.ntmps42
    go_wp2_with fail
    rw [← HW0.out]
    refine (HI1'.out _ HB1.out).mono ?_
    rintro e w1 ⟨rfl, hb2⟩
    have HB2 : Hid (Below w.heap.size w w1) := Lib.hid (HB1.out.trans (hb2.mono HB1.out.size))
    have HX2 : Hid (w1.heap[w.heap.size]? = some (.cells (zeros 32) 33 (0, 0))) := Lib.hid ((hb2.block _ (blk_lt HX.out)).trans HX.out)
    clear hb2
    go_wp2_with fail
    refine (HI2'.out _ HB2.out).mono ?_
    rintro e w2 ⟨rfl, hb3⟩
    have HB3 : Hid (Below w.heap.size w w2) := Lib.hid (HB2.out.trans (hb3.mono HB2.out.size))
    have HX3 : Hid (w2.heap[w.heap.size]? = some (.cells (zeros 32) 33 (0, 0))) := Lib.hid ((hb3.block _ (blk_lt HX2.out)).trans HX2.out)
    clear hb3
    go_wp2_with fail
    refine (HRN.out _).mono ?_
    rintro e w3 ⟨rfl, hb4⟩
    have HX4 : Hid (w3.heap[w.heap.size]? = some (.cells (zeros 32) 33 (0, 0))) := Lib.hid ((hb4.block _ (blk_lt HX3.out)).trans HX3.out)
    have HFX := Lib.hid (setRow_heap _ _ _ da _ _ HX4.out)
    have HFB := Lib.hid (below_setRow (g := w.heap.size) (HB3.out.trans (hb4.mono HB3.out.size)) (Nat.le_refl _) da)
    clear hb4
    go_wp2_with (with_reducible refine wpList_store_row rfl 33 (.tmp 6) (.tmp 37) rfl _ _ rfl rfl 33 _ HX4.out HI.out HZ.out HO.out ?_)
    exact bodyPost_ret (v := .agg da) (results_cell_row rfl _ _ _ 33 _ (0, 0) _ rfl HFX.out Tryz.underlying33 rfl HI.out) rfl ⟨rfl, HFB.out⟩
set_option maxHeartbeats 2000000 in
set_option maxRecDepth 100000 in
theorem rroot_any (nl cl : Nat) (A : Option Addr) (ls : Nat → List Nat) (hn0 : 1 ≤ nl) (hnl : nl ≤ 20) (hcl : nl ≤ cl) (w : World) (h : DgS w A nl ls) :
    Calls Tryz.prog 20 #[.slice A nl cl] w fun e w' => e = .returned (.agg (digA (txt 2 [putL 4 nl, treeAt (mixX nl ls) (dpt nl) 0]))) ∧ Below w.heap.size w w' := by
  have hz := zero32
  have hD5 := dpt_le nl hnl
  obtain ⟨W0, hW0⟩ : ∃ W0, W0 = w.alloc (.cells (zeros 32) 33) := ⟨_, rfl⟩
  have hb1 : Below w.heap.size w W0 := by rw [hW0]; exact (Below.refl _ _).alloc (Nat.le_refl _) _
  have HX : Hid (W0.heap[w.heap.size]? = some (.cells (zeros 32) 33 (0, 0))) := Lib.hid (by rw [hW0]; exact heap_alloc_new w _)
  have HB1 := Lib.hid hb1
  have HDP := Lib.hid (fun W => rdepth_any nl hnl W)
  have hp : (0 + 1) * 2 ^ dpt nl ≤ 1024 := by rw [Nat.zero_add, Nat.one_mul]; exact Nat.le_trans (Nat.pow_le_pow_right (by omega) hD5) (by decide)
  have HAT := Lib.hid (rat_any nl cl A ls hnl hcl (dpt nl) 0 hp (by omega) W0 (h.below hb1))
  rw [show ((0 : Nat) : Int) = 0 from rfl] at HAT
  have HTP := Lib.hid (fun W => rtop_any nl (treeAt (mixX nl ls) (dpt nl) 0) W (by omega) (treeAt_dig (mixX_dig nl h.2) _ _))
  obtain ⟨x1, hx1⟩ : ∃ z, z = dA (treeAt (mixX nl ls) (dpt nl) 0) := ⟨_, rfl⟩
  have HAT' : Hid (Calls Tryz.prog 42 #[.slice A nl cl, .int .i64 (dpt nl : Int), .int .i64 0] W0 fun e w' => e = .returned (.agg x1) ∧ Below W0.heap.size W0 w') := Lib.hid (by rw [hx1]; exact HAT.out)
  rw [← hx1] at HTP
  obtain ⟨da, hda⟩ : ∃ da, da = digA (txt 2 [putL 4 nl, treeAt (mixX nl ls) (dpt nl) 0]) := ⟨_, rfl⟩
  have hda2 : da.size = 32 := by rw [hda]; unfold digA; rw [rowV_size]
  have HI := Lib.hid (info_d32 hda2)
  have HO : Hid (da.all (·.oneCell') = true) := Lib.hid (by rw [hda]; exact one_dig _)
  have HZ : Hid ((zeros 32).size = da.size) := Lib.hid (by rw [hda2]; simp [zeros])
  rw [← hda] at HTP ⊢
  have HW0 := Lib.hid hW0
  generalize dpt nl = D at *
  clear h hb1 hda hda2 hx1 HAT hW0 hp
  go_enter Tryz.func20, Tryz.ntmps20
  go_wp2_with fail
  rw [← HW0.out]
  refine (HDP.out _).mono ?_
  rintro e w' ⟨rfl, rfl⟩
  go_wp2_with fail
  refine HAT'.out.mono ?_
  rintro e w1 ⟨rfl, hb2⟩
  have HB2 : Hid (Below w.heap.size w w1) := Lib.hid (HB1.out.trans (hb2.mono HB1.out.size))
  have HX2 : Hid (w1.heap[w.heap.size]? = some (.cells (zeros 32) 33 (0, 0))) := Lib.hid ((hb2.block _ (blk_lt HX.out)).trans HX.out)
  clear hb2
  go_wp2_with fail
  refine (HTP.out _).mono ?_
  rintro e w3 ⟨rfl, hb4⟩
  have HX4 : Hid (w3.heap[w.heap.size]? = some (.cells (zeros 32) 33 (0, 0))) := Lib.hid ((hb4.block _ (blk_lt HX2.out)).trans HX2.out)
  have HFX := Lib.hid (setRow_heap _ _ _ da _ _ HX4.out)
  have HFB := Lib.hid (below_setRow (g := w.heap.size) (HB2.out.trans (hb4.mono HB2.out.size)) (Nat.le_refl _) da)
  clear hb4
  go_wp2_with (with_reducible refine wpList_store_row rfl 33 (.tmp 2) (.tmp 10) rfl _ _ rfl rfl 33 _ HX4.out HI.out HZ.out HO.out ?_)
  exact bodyPost_ret (v := .agg da) (results_cell_row rfl _ _ _ 33 _ (0, 0) _ rfl HFX.out Tryz.underlying33 rfl HI.out) rfl ⟨rfl, HFB.out⟩
end
end Go.Proofs.YtoclelpmampikaaGreat
