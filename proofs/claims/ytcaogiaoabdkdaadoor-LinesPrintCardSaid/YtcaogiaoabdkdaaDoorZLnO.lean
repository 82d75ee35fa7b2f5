/-
  Package garderoberef31: Act (words to an act).
-/
import Derived.Test.YtcaogiaoabdkdaaDoorZLnI
import Derived.Test.YtcaogiaoabdkdaaDoorZLnF
import Derived.Test.YtcaogiaoabdkdaaDoorZLnB
import Derived.Test.YtcaogiaoabdkdaaDoorZLnK
import Derived.Test.YtcaogiaoabdkdaaDoorZCel
import Derived.Test.YtcaogiaoabdkdaaDoorZHeldF
import Derived.Laws.CopyOwn
import Derived.Laws.Tables
namespace Go.Proofs.YtcaogiaoabdkdaaDoor
open Go.RowKit Go Go.WideShapes Go.ChangeShapes Go.Deep
set_option linter.unusedVariables false
set_option linter.unusedSimpArgs false
set_option maxRecDepth 100000
theorem results_row31 {P : Program} {fn : Func} {p u : Tmp} {ty : TypeId} (h : fn.results = #[.cell p ty, .tmp u]) (tmps : Array Value) (w : World) (g : Nat) (t : TypeId) (cs : Array Value) (fr : Nat × Nat) (d : TypeDesc)
    (v2 : Value) (hp : tmps.getD p undef = .pointer (some ⟨g, 0, none⟩)) (hv2 : tmps.getD u undef = v2) (hg : w.heap[g]? = some (.cells cs t fr))
    (hu : P.underlying ty = some d) (hd : (match d with | .struct _ | .array _ _ => true | _ => false) = true) (hi : (P.info? ty).map (·.size) = some cs.size) :
    (results fn tmps).run P w = .ok (.tuple #[.agg cs, v2]) w := by
  subst hv2
  have hp' : tmps[p]?.getD undef = .pointer (some ⟨g, 0, none⟩) := by simpa using hp
  simp [results, h, hp', asAddr, run_loadVar_row w g t ty cs fr d hg hu hd hi, Sem.run_bind, Result.andThen]
theorem one7r (a b c d e : Int) (y : Bool) (A : Option Addr) (n m : Nat) : (#[Value.int .i64 a, Value.bool y, Value.int .i64 b, Value.int .i64 c, Value.int .i64 d, Value.int .i64 e, Value.slice A n m] : Array Value).all (·.oneCell') = true := by first | rfl | kernel_rfl | (simp [Value.oneCell']; done)
theorem info7r (a b c d e : Int) (y : Bool) (A : Option Addr) (n m : Nat) : (Tryd.prog.info? 26).map (·.size) = some (#[Value.int .i64 a, Value.bool y, Value.int .i64 b, Value.int .i64 c, Value.int .i64 d, Value.int .i64 e, Value.slice A n m] : Array Value).size := by
  rw [show (#[Value.int .i64 a, Value.bool y, Value.int .i64 b, Value.int .i64 c, Value.int .i64 d, Value.int .i64 e, Value.slice A n m] : Array Value).size = 7 from rfl]; kernel_rfl
def ActTo (w : World) (ws : List (List Nat)) (e : Ending) (w' : World) : Prop :=
  ∃ (a : Ac) (A : Option Addr) (c : Nat) (ok : Bool), e = .returned (.tuple #[.agg #[.int .i64 a.kind, .bool a.yes, .int .i64 a.which, .int .i64 a.k, .int .i64 a.n, .int .i64 a.pos, .slice A a.b.length c], .bool ok]) ∧ Below w.heap.size w w' ∧ Own w' w.heap.size (.slice A a.b.length c) a.b ∧ (∀ i, a.b.getD i 0 < 256) ∧ actW ws = if ok = true then some a else none
theorem name_byte : ∀ k, k < 20 → ∀ i, (namesL.getD k []).getD i 0 < 256 := by
  intro k hk i
  have h : ∀ k, k < 20 → (namesL.getD k []).all (fun c => decide (c < 256)) = true := by decide
  by_cases hi : i < (namesL.getD k []).length
  · rw [List.getD_eq_getElem?_getD, List.getElem?_eq_getElem hi]
    exact of_decide_eq_true (List.all_eq_true.1 (h k hk) _ (List.getElem_mem hi))
  · rw [List.getD_eq_getElem?_getD, List.getElem?_eq_none (by omega)]; exact Nat.zero_lt_succ _
/-- the world in which the kinds' names are held against the first word -/
def AcK (w : World) (w0 : List Nat) (g5 : Nat) (w5 : World) (iv : Value) (wr : World) : Prop := ∃ j : Nat, iv = .int .i64 (j : Int) ∧ j ≤ 20 ∧ wr.heap[w.heap.size]? = some (.cells #[.int .i64 0, .bool false, .int .i64 0, .int .i64 0, .int .i64 0, .int .i64 0, .slice none 0 0] 26 (0, 0)) ∧ wr.heap[(w.heap.size + 1)]? = some (.cells #[.int .i64 (kindF w0 j), .bool false, .int .i64 0, .int .i64 0, .int .i64 0, .int .i64 0, .slice none 0 0] 26 (0, 0)) ∧ Below w.heap.size w wr ∧ wr.heap[g5]? = w5.heap[g5]?
/-- the world in which the words behind the first one are read -/
def AcL2 (w : World) (kd : Nat) (r : List (List Nat)) (iv : Value) (wr : World) : Prop := ∃ (j : Nat) (a : Ac) (A : Option Addr) (c : Nat), iv = .int .i64 (j : Int) ∧ j ≤ (ordL kd).length ∧ wr.heap[w.heap.size]? = some (.cells #[.int .i64 0, .bool false, .int .i64 0, .int .i64 0, .int .i64 0, .int .i64 0, .slice none 0 0] 26 (0, 0)) ∧ wr.heap[(w.heap.size + 1)]? = some (.cells #[.int .i64 a.kind, .bool a.yes, .int .i64 a.which, .int .i64 a.k, .int .i64 a.n, .int .i64 a.pos, .slice A a.b.length c] 26 (0, 0)) ∧ Own wr (w.heap.size + 2) (.slice A a.b.length c) a.b ∧ (∀ i, a.b.getD i 0 < 256) ∧ Below w.heap.size w wr ∧ setsW (kA kd) ((ordL kd).zip r) = setsW a (((ordL kd).drop j).zip (r.drop j))
theorem sets_drop {a : Ac} {f : List Nat} {r : List (List Nat)} {j : Nat} (h1 : j < f.length) (h2 : j < r.length) :
    setsW a ((f.drop j).zip (r.drop j)) = match setW a (f.getD j 0) (r.getD j []) with | some b => setsW b ((f.drop (j + 1)).zip (r.drop (j + 1))) | none => none := by
  rw [List.drop_eq_getElem_cons h1, List.drop_eq_getElem_cons h2, List.zip_cons_cons, setsW, List.getD_eq_getElem?_getD, List.getElem?_eq_getElem h1, List.getD_eq_getElem?_getD, List.getElem?_eq_getElem h2]
  rfl
theorem own_len9 {w : World} {B : Nat} {v : Value} {l : List Nat} (h : Own w B v l) : l.length ≤ 9223372036854775807 := by
  obtain ⟨h1, h2⟩ := h
  rcases h2 with ⟨_, h0⟩ | ⟨g, cap, cur, hv, hb, hg, hnc, hm, _⟩
  · omega
  · unfold maxLen at hm; omega
theorem own_setRow9 {w : World} {B : Nat} {v : Value} {l : List Nat} (h : Own w B v l) {g : Nat} (hg : g < B) (cs : Array Value) : Own (w.setRow g cs) B v l :=
  h.keep fun k hk => setRow_other w g k cs (by have := (h.lt hk).1; omega)
set_option maxHeartbeats 1000000
theorem ract_any (gl n c : Nat) (ws : List (List Nat)) (w0 : List Nat) (r : List (List Nat)) (w : World) (hws : ws = w0 :: r) (hn : ws.length = n) (hn9 : n ≤ 1000000) (hgl : gl < w.heap.size) (hc : ∀ j, j < n → w.cell? ⟨gl, j, none⟩ = some (.string (str (ws.getD j []))))
    (hby : ∀ j i, (ws.getD j []).getD i 0 < 256) (hln : ∀ j, (ws.getD j []).length ≤ 1000000) (hcap : n ≤ c ∧ c ≤ 9223372036854775807) :
    Calls Tryd.prog 33 #[.slice (some ⟨gl, 0, none⟩) n c] w (ActTo w ws) := by
  have h0 : ws.getD 0 [] = w0 := by rw [hws]; rfl
  have hrl : r.length + 1 = n := by rw [← hn, hws]; rfl
  have hb0 := hby 0
  rw [h0] at hb0
  have HC : Hid (∀ W, Below w.heap.size w W → ∀ j, j < n → W.cell? ⟨gl, j, none⟩ = some (.string (str (ws.getD j [])))) := Lib.hid (fun W hW j hj => (hW.cell (p := ⟨gl, j, none⟩) hgl).trans (hc j hj))
  have HB0 : Hid (Below w.heap.size w ((w.alloc (.cells #[.int .i64 0, .bool false, .int .i64 0, .int .i64 0, .int .i64 0, .int .i64 0, .slice none 0 0] 26)).alloc (.cells #[.int .i64 (-1), .bool false, .int .i64 0, .int .i64 0, .int .i64 0, .int .i64 0, .slice none 0 0] 26))) := Lib.hid (((Below.refl _ _).alloc (Nat.le_refl _) _).alloc (by simp) _)
  have HX2 : Hid (((w.alloc (.cells #[.int .i64 0, .bool false, .int .i64 0, .int .i64 0, .int .i64 0, .int .i64 0, .slice none 0 0] 26)).alloc (.cells #[.int .i64 (-1), .bool false, .int .i64 0, .int .i64 0, .int .i64 0, .int .i64 0, .slice none 0 0] 26)).heap[w.heap.size]? = some (.cells #[.int .i64 0, .bool false, .int .i64 0, .int .i64 0, .int .i64 0, .int .i64 0, .slice none 0 0] 26 (0, 0))) := Lib.hid (blk_alloc (heap_alloc_new w _) _)
  have HX4 : Hid (((w.alloc (.cells #[.int .i64 0, .bool false, .int .i64 0, .int .i64 0, .int .i64 0, .int .i64 0, .slice none 0 0] 26)).alloc (.cells #[.int .i64 (-1), .bool false, .int .i64 0, .int .i64 0, .int .i64 0, .int .i64 0, .slice none 0 0] 26)).heap[(w.heap.size + 1)]? = some (.cells #[.int .i64 (-1), .bool false, .int .i64 0, .int .i64 0, .int .i64 0, .int .i64 0, .slice none 0 0] 26 (0, 0))) := Lib.hid (by
    have := heap_alloc_new (w.alloc (.cells #[.int .i64 0, .bool false, .int .i64 0, .int .i64 0, .int .i64 0, .int .i64 0, .slice none 0 0] 26)) (.cells #[.int .i64 (-1), .bool false, .int .i64 0, .int .i64 0, .int .i64 0, .int .i64 0, .slice none 0 0] 26)
    rw [World.size_alloc] at this
    exact this)
  have HSZ : Hid (((w.alloc (.cells #[.int .i64 0, .bool false, .int .i64 0, .int .i64 0, .int .i64 0, .int .i64 0, .slice none 0 0] 26)).alloc (.cells #[.int .i64 (-1), .bool false, .int .i64 0, .int .i64 0, .int .i64 0, .int .i64 0, .slice none 0 0] 26)).heap.size = w.heap.size + 2) := Lib.hid (by simp)
  have HNA := Lib.hid (fun W => names_any W)
  have HOD := Lib.hid (fun kd (h : kd < 20) W => order_any kd h W)
  have HEQ : Hid (∀ k, k < 20 → ((str (namesL.getD k [])).toList == (str w0).toList) = decide (namesL.getD k [] = w0)) := Lib.hid (fun k hk => str_toList (name_byte k hk) hb0)
  have HZE : Hid (∀ W, Below w.heap.size w W → actW ws = none → ActTo w ws (.returned (.tuple #[.agg #[.int .i64 0, .bool false, .int .i64 0, .int .i64 0, .int .i64 0, .int .i64 0, .slice none 0 0], .bool false])) W) := Lib.hid (fun W h1 h2 => ⟨kA 0, none, 0, false, rfl, h1, Own.nil _ _, fun i => by simp [kA], by rw [h2]; rfl⟩)
  have HAW : Hid (kindW w0 = none → actW ws = none) := Lib.hid (fun h => by rw [hws, actW, h])
  have hn1 : 0 < n := by omega
  have HBY := Lib.hid hby
  have HLN := Lib.hid hln
  have HWS := Lib.hid hws
  have HNN := Lib.hid hn
  have HRL := Lib.hid hrl
  have HW0 := Lib.hid h0
  have HXX := Lib.hid hgl
  obtain ⟨hcap1, hcap2⟩ := hcap
  clear hb0 hws hn h0 hc hby hln hrl hgl
  go_enter Tryd.func33, Tryd.ntmps33
  go_upto_region 2 with (fail)
  generalize hWX : ((w.alloc (.cells #[.int .i64 0, .bool false, .int .i64 0, .int .i64 0, .int .i64 0, .int .i64 0, .slice none 0 0] 26)).alloc (.cells #[.int .i64 (-1), .bool false, .int .i64 0, .int .i64 0, .int .i64 0, .int .i64 0, .slice none 0 0] 26)) = W0 at *
  clear hWX
  go_wp2_with fail
  refine (HNA.out _).mono ?_
  rintro e w5 ⟨g5, rfl, hg5, hlt5, hb5, hc5⟩
  rw [HSZ.out] at hg5
  have HC5 := Lib.hid hc5
  have HB5 := Lib.hid (HB0.out.trans (hb5.mono HB0.out.size))
  have HST : Hid (AcK w w0 g5 w5 (.int .i64 0) w5) := Lib.hid ⟨0, rfl, by omega, (hb5.block _ (blk_lt HX2.out)).trans HX2.out, (hb5.block _ (blk_lt HX4.out)).trans HX4.out, HB5.out, rfl⟩
  clear hb5 hc5
  go_wp2_with fail
  go_loopw [15] (fun iv wr => AcK w w0 g5 w5 iv wr) (fun iv _ => (20 - intOf iv).toNat)
  case atStart => exact HST.out
  case round =>
    clear HST
    obtain ⟨j, rfl, hj, hx2, hx4, hb, hg⟩ := hrel
    have HY2 := Lib.hid hx2
    have HY4 := Lib.hid hx4
    have HB := Lib.hid hb
    have HG := Lib.hid hg
    have p0 := HC.out wr hb 0 hn1
    rw [HW0.out] at p0
    clear hx2 hx4 hb hg
    by_cases hlt : j < 20
    · have p1 : wr.cell? ⟨g5, j, none⟩ = some (.string (str (namesL.getD j []))) := (World.cell?_of_block HG.out).trans (HC5.out j hlt)
      have hq := HEQ.out j hlt
      have dd0 := blk_cell HY4.out 0
      have ff0 := blk_free HY4.out 0
      by_cases he : namesL.getD j [] = w0
      · have HF : Hid (AcK w w0 g5 w5 (.int .i64 ((j : Int) + 1)) (wr.setCell ⟨(w.heap.size + 1), 0, none⟩ (.int .i64 (j : Int)))) := Lib.hid ⟨j + 1, by simp, by omega, blk_far HY2.out (by show w.heap.size ≠ w.heap.size + 1; omega) _, by
          have := blk_set HY4.out 0 (.int .i64 (j : Int))
          rw [kindF, if_pos he]; exact this, HB.out.setCell (by show w.heap.size ≤ w.heap.size + 1; omega) _, (Below.heap_setCell _ _ _ _ (by show g5 ≠ w.heap.size + 1; omega)).trans HG.out⟩
        have hq2 : ((str (namesL.getD j [])).toList == (str w0).toList) = true := by rw [hq, decide_eq_true_eq]; exact he
        clear hq he
        generalize str (namesL.getD j []) = S1 at *
        generalize str w0 = S0 at *
        go_wp2_with fail
        go_roundw
        case rel => exact HF.out
        case measure => simp [intOf]; omega
      · have HF : Hid (AcK w w0 g5 w5 (.int .i64 ((j : Int) + 1)) wr) := Lib.hid ⟨j + 1, by simp, by omega, HY2.out, by rw [kindF, if_neg he]; exact HY4.out, HB.out, HG.out⟩
        have hq2 : ((str (namesL.getD j [])).toList == (str w0).toList) = false := by rw [hq, decide_eq_false_iff_not]; exact he
        clear hq he
        generalize str (namesL.getD j []) = S1 at *
        generalize str w0 = S0 at *
        go_wp2_with fail
        go_roundw
        case rel => exact HF.out
        case measure => simp [intOf]; omega
    · obtain rfl : j = 20 := by omega
      clear hlt hj p0 HEQ HG HC5
      rw [kindF_kind] at HY4
      cases hk : kindW w0 with
      | none =>
        rw [hk] at HY4
        have HXZ := HY2
        have HBADQ : Hid (ActTo w ws (.returned (.tuple #[.agg #[.int .i64 0, .bool false, .int .i64 0, .int .i64 0, .int .i64 0, .int .i64 0, .slice none 0 0], .bool false])) (wr.setRow w.heap.size #[.int .i64 0, .bool false, .int .i64 0, .int .i64 0, .int .i64 0, .int .i64 0, .slice none 0 0])) := Lib.hid (HZE.out _ (below_setRow HB.out (Nat.le_refl _) _) (HAW.out hk))
        have dd0 : wr.cell? ⟨w.heap.size + 1, 0, none⟩ = some (.int .i64 (-1)) := blk_cell HY4.out 0
        clear hk
        go_wp2_with (with_reducible refine wpList_store_row rfl 26 (.tmp 2) (.tmp 41) rfl w.heap.size #[.int .i64 0, .bool false, .int .i64 0, .int .i64 0, .int .i64 0, .int .i64 0, .slice none 0 0] rfl rfl _ _ HXZ.out (info7r _ _ _ _ _ _ _ _ _) rfl (one7r _ _ _ _ _ _ _ _ _) ?_)
        exact bodyPost_ret (v := .tuple #[.agg #[.int .i64 0, .bool false, .int .i64 0, .int .i64 0, .int .i64 0, .int .i64 0, .slice none 0 0], .bool false]) (results_row31 rfl _ _ w.heap.size 26 #[.int .i64 0, .bool false, .int .i64 0, .int .i64 0, .int .i64 0, .int .i64 0, .slice none 0 0] (0, 0) _ (.bool false) rfl rfl (setRow_heap _ _ _ _ _ _ HXZ.out) Tryd.underlying26 rfl (info7r _ _ _ _ _ _ _ _ _)) rfl HBADQ.out
      | some kd =>
        have hkd := kindW_lt hk
        have HAC : Hid (r.length = (ordL kd).length → actW ws = match setsW (kA kd) ((ordL kd).zip r) with | some a => if mayA a then some a else none | none => none) := Lib.hid (fun h => by rw [HWS.out, actW, hk]; simp only []; rw [if_pos h]; rfl)
        have HAN : Hid (r.length ≠ (ordL kd).length → actW ws = none) := Lib.hid (fun h => by rw [HWS.out, actW, hk]; simp only []; rw [if_neg h])
        rw [hk] at HY4
        have HX4b : Hid (wr.heap[(w.heap.size + 1)]? = some (.cells #[.int .i64 (kd : Int), .bool false, .int .i64 0, .int .i64 0, .int .i64 0, .int .i64 0, .slice none 0 0] 26 (0, 0))) := Lib.hid HY4.out
        have dd0 : wr.cell? ⟨w.heap.size + 1, 0, none⟩ = some (.int .i64 (kd : Int)) := blk_cell HY4.out 0
        have hsz := str_size (ordL kd)
        have hL3 := ord_len kd hkd
        have HKO := Lib.hid (fun W => order_any kd hkd W)
        have HOI := Lib.hid (ord_in kd hkd)
        have HI := Lib.hid (fun j (h : j < (ordL kd).length) => idx_at (ord_byte kd hkd) h)
        have HR2 : Hid (∀ iv W, AcL2 w kd r iv W ↔ AcL2 w kd r iv W) := Lib.hid (fun _ _ => Iff.rfl)
        have HST2 : Hid (AcL2 w kd r (.int .i64 0) wr) := Lib.hid ⟨0, kA kd, none, 0, rfl, Nat.zero_le _, HY2.out, HX4b.out, Own.nil _ _, fun i => by simp [kA], HB.out, rfl⟩
        obtain ⟨L, hLL⟩ : ∃ L, (ordL kd).length = L := ⟨_, rfl⟩
        have HLL := Lib.hid hLL
        rw [hLL] at hsz hL3
        generalize hOS : str (ordL kd) = OS at *
        clear hLL hk HY4 hOS HAW
        have hkI : ¬ (kd : Int) < 0 := by omega
        by_cases hnl : n = 1 + L
        · have e1 : ((n : Int) != 1 + (L : Int)) = false := by rw [bne_eq_false_iff_eq]; omega
          have hrL : r.length = L := by have := HRL.out; omega
          have HRLL := Lib.hid hrL
          clear HAN
          go_wp2_with fail
          refine (HKO.out _).mono ?_
          rintro e W8 ⟨rfl, rfl⟩
          go_wp2_with fail
          refine (HKO.out _).mono ?_
          rintro e W8 ⟨rfl, rfl⟩
          clear dd0 e1
          go_wp2_with fail
          go_loopw [8] (fun iv wr => AcL2 w kd r iv wr) (fun iv _ => (L - intOf iv).toNat)
          case atStart => exact HST2.out
          case round =>
            clear HST2
            obtain ⟨j, a, A, cA, rfl, hj, hx2, hx4, ho, hba, hb, hset⟩ := hrel
            have HY2 := Lib.hid hx2
            have HY4 := Lib.hid hx4
            have HO := Lib.hid ho
            have HB := Lib.hid hb
            have HBYA := Lib.hid hba
            have HSS := Lib.hid hset
            rw [HLL.out] at hj
            clear hx2 hx4 ho hb hba hset
            by_cases hlt : j < L
            · have h7 := HOI.out j (by rw [HLL.out]; exact hlt)
              have hj3 : j < 3 := by omega
              have hix := HI.out j (by rw [HLL.out]; exact hlt) wr
              have HSD := Lib.hid (sets_drop (a := a) (f := ordL kd) (r := r) (j := j) (by rw [HLL.out]; exact hlt) (by rw [HRLL.out]; exact hlt))
              have HUW : Hid (r.getD j [] = ws.getD (j + 1) []) := Lib.hid (by rw [HWS.out]; rfl)
              have p1 : wr.cell? ⟨gl, j + 1, none⟩ = some (.string (str (ws.getD (j + 1) []))) := HC.out wr HB.out (j + 1) (by omega)
              have hjw : IntKind.i64.wrap ((j : Int) + 1) = (j : Int) + 1 := IntWalk.i64_in _ (by omega)
              have hjn : ((j : Int) + 1) < (n : Int) := by omega
              have hjt : ((j : Int) + 1).toNat = j + 1 := by omega
              rw [HUW.out] at HSD
              have hub := HBY.out (j + 1)
              have hul := HLN.out (j + 1)
              have HV0 := Lib.hid (fun W => value_any (ws.getD (j + 1) []) hub hul W)
              have HBT := Lib.hid (fun W => rbyt_any (ws.getD (j + 1) []) hub hul W)
              have HVO0 := Lib.hid (valR_ok (ws.getD (j + 1) []))
              have HRD := Lib.hid (show ((str (ws.getD (j + 1) [])).toList == ([114, 101, 97, 100] : List UInt8)) = decide (ws.getD (j + 1) [] = rdW) by
                rw [← str_toList hub (m := rdW) (fun i => by match i with | 0 => decide | 1 => decide | 2 => decide | 3 => decide | i + 4 => simp [rdW])]; rw [show (str rdW).toList = ([114, 101, 97, 100] : List UInt8) by rw [toList_data]; rfl])
              have HWR := Lib.hid (show ((str (ws.getD (j + 1) [])).toList == ([119, 114, 105, 116, 101] : List UInt8)) = decide (ws.getD (j + 1) [] = wrW) by
                rw [← str_toList hub (m := wrW) (fun i => by match i with | 0 => decide | 1 => decide | 2 => decide | 3 => decide | 4 => decide | i + 5 => simp [wrW])]; rw [show (str wrW).toList = ([119, 114, 105, 116, 101] : List UInt8) by rw [toList_data]; rfl])
              have HNO_ := Lib.hid (show ((str (ws.getD (j + 1) [])).toList == ([110, 111, 110, 101] : List UInt8)) = decide (ws.getD (j + 1) [] = noW) by
                rw [← str_toList hub (m := noW) (fun i => by match i with | 0 => decide | 1 => decide | 2 => decide | 3 => decide | i + 4 => simp [noW])]; rw [show (str noW).toList = ([110, 111, 110, 101] : List UInt8) by rw [toList_data]; rfl])
              have HNXT : Hid (∀ a' A' c' W, setW a ((ordL kd).getD j 0) (ws.getD (j + 1) []) = some a' → W.heap[w.heap.size]? = some (.cells #[.int .i64 0, .bool false, .int .i64 0, .int .i64 0, .int .i64 0, .int .i64 0, .slice none 0 0] 26 (0, 0)) → W.heap[(w.heap.size + 1)]? = some (.cells #[.int .i64 a'.kind, .bool a'.yes, .int .i64 a'.which, .int .i64 a'.k, .int .i64 a'.n, .int .i64 a'.pos, .slice A' a'.b.length c'] 26 (0, 0)) → Own W (w.heap.size + 2) (.slice A' a'.b.length c') a'.b → (∀ i, a'.b.getD i 0 < 256) → Below w.heap.size w W → AcL2 w kd r (.int .i64 ((j : Int) + 1)) W) := Lib.hid (fun a' A' c' W h1 h2 h3 h4 h5 h6 => ⟨j + 1, a', A', c', by simp, by rw [HLL.out]; omega, h2, h3, h4, h5, h6, by rw [HSS.out, HSD.out, h1]⟩)
              have HBD : Hid (setW a ((ordL kd).getD j 0) (ws.getD (j + 1) []) = none → actW ws = none) := Lib.hid (fun h1 => by rw [HAC.out (by rw [HRLL.out, HLL.out]), HSS.out, HSD.out, h1])
              clear HSD HSS HUW HAC hub hul
              generalize ws.getD (j + 1) [] = u at *
              generalize hVR : valR u = R at *
              obtain ⟨v, ok⟩ := R
              have HV : Hid (∀ W, Calls Tryd.prog 49 #[.string (str u)] W fun e w' => e = .returned (.tuple #[.int .i64 (v : Int), .bool ok]) ∧ W = w') := HV0
              have HVO : Hid (valL u = if ok = true then some v else none) := HVO0
              clear HV0 HVO0 hVR
              generalize (ordL kd).getD j 0 = x at *
              rcases h7 with rfl | rfl | rfl | rfl | rfl | rfl | rfl
              · have HSW : Hid (setW a 119 u = if ok = true then some { a with which := (v : Int) } else none) := Lib.hid (by unfold setW; rw [HVO.out]; cases ok <;> simp)
                have dd := blk_cell HY4.out 2
                have ff := blk_free HY4.out 2
                have HZZ : Hid ((wr.setCell ⟨(w.heap.size + 1), 2, none⟩ (.int .i64 (v : Int))).heap[w.heap.size]? = some (.cells #[.int .i64 0, .bool false, .int .i64 0, .int .i64 0, .int .i64 0, .int .i64 0, .slice none 0 0] 26 (0, 0))) := Lib.hid (blk_far (HY2.out) (by show w.heap.size ≠ w.heap.size + 1; omega) _)
                have HBZ : Hid (Below w.heap.size w (wr.setCell ⟨(w.heap.size + 1), 2, none⟩ (.int .i64 (v : Int)))) := Lib.hid (Below.setCell (HB.out) (by show w.heap.size ≤ w.heap.size + 1; omega) _)
                cases ok
                · have HNO := HBD.out HSW.out
                  go_wp2_with fail
                  refine (HV.out _).mono ?_
                  rintro e W7 ⟨rfl, rfl⟩
                  clear HSW HNXT HBD
                  have HXZ : Hid ((wr.setCell ⟨(w.heap.size + 1), 2, none⟩ (.int .i64 (v : Int))).heap[w.heap.size]? = some (.cells #[.int .i64 0, .bool false, .int .i64 0, .int .i64 0, .int .i64 0, .int .i64 0, .slice none 0 0] 26 (0, 0))) := Lib.hid (HZZ.out)
                  have HBADQ : Hid (ActTo w ws (.returned (.tuple #[.agg #[.int .i64 0, .bool false, .int .i64 0, .int .i64 0, .int .i64 0, .int .i64 0, .slice none 0 0], .bool false])) ((wr.setCell ⟨(w.heap.size + 1), 2, none⟩ (.int .i64 (v : Int))).setRow w.heap.size #[.int .i64 0, .bool false, .int .i64 0, .int .i64 0, .int .i64 0, .int .i64 0, .slice none 0 0])) := Lib.hid (HZE.out _ (below_setRow HBZ.out (Nat.le_refl _) _) HNO)
                  go_wp2_with (with_reducible refine wpList_store_row rfl 26 (.tmp 2) (.tmp 111) rfl w.heap.size #[.int .i64 0, .bool false, .int .i64 0, .int .i64 0, .int .i64 0, .int .i64 0, .slice none 0 0] rfl rfl _ _ HXZ.out (info7r _ _ _ _ _ _ _ _ _) rfl (one7r _ _ _ _ _ _ _ _ _) ?_)
                  exact bodyPost_ret (v := .tuple #[.agg #[.int .i64 0, .bool false, .int .i64 0, .int .i64 0, .int .i64 0, .int .i64 0, .slice none 0 0], .bool false]) (results_row31 rfl _ _ w.heap.size 26 #[.int .i64 0, .bool false, .int .i64 0, .int .i64 0, .int .i64 0, .int .i64 0, .slice none 0 0] (0, 0) _ (.bool false) rfl rfl (setRow_heap _ _ _ _ _ _ HXZ.out) Tryd.underlying26 rfl (info7r _ _ _ _ _ _ _ _ _)) rfl HBADQ.out
                · have HF := Lib.hid (HNXT.out { a with which := (v : Int) } A cA (wr.setCell ⟨(w.heap.size + 1), 2, none⟩ (.int .i64 (v : Int))) HSW.out HZZ.out (blk_set HY4.out 2 _) (ownsRow_setCell_below (HO.out) (by show w.heap.size + 1 < w.heap.size + 2; omega) _) HBYA.out HBZ.out)
                  go_wp2_with fail
                  refine (HV.out _).mono ?_
                  rintro e W7 ⟨rfl, rfl⟩
                  clear HSW HNXT HBD
                  go_wp2_with fail
                  go_roundw
                  case rel => exact HF.out
                  case measure => simp [intOf]; omega
              · have HSW : Hid (setW a 107 u = if ok = true then some { a with k := (v : Int) } else none) := Lib.hid (by unfold setW; rw [HVO.out]; cases ok <;> simp)
                have dd := blk_cell HY4.out 3
                have ff := blk_free HY4.out 3
                have HZZ : Hid ((wr.setCell ⟨(w.heap.size + 1), 3, none⟩ (.int .i64 (v : Int))).heap[w.heap.size]? = some (.cells #[.int .i64 0, .bool false, .int .i64 0, .int .i64 0, .int .i64 0, .int .i64 0, .slice none 0 0] 26 (0, 0))) := Lib.hid (blk_far (HY2.out) (by show w.heap.size ≠ w.heap.size + 1; omega) _)
                have HBZ : Hid (Below w.heap.size w (wr.setCell ⟨(w.heap.size + 1), 3, none⟩ (.int .i64 (v : Int)))) := Lib.hid (Below.setCell (HB.out) (by show w.heap.size ≤ w.heap.size + 1; omega) _)
                cases ok
                · have HNO := HBD.out HSW.out
                  go_wp2_with fail
                  refine (HV.out _).mono ?_
                  rintro e W7 ⟨rfl, rfl⟩
                  clear HSW HNXT HBD
                  have HXZ : Hid ((wr.setCell ⟨(w.heap.size + 1), 3, none⟩ (.int .i64 (v : Int))).heap[w.heap.size]? = some (.cells #[.int .i64 0, .bool false, .int .i64 0, .int .i64 0, .int .i64 0, .int .i64 0, .slice none 0 0] 26 (0, 0))) := Lib.hid (HZZ.out)
                  have HBADQ : Hid (ActTo w ws (.returned (.tuple #[.agg #[.int .i64 0, .bool false, .int .i64 0, .int .i64 0, .int .i64 0, .int .i64 0, .slice none 0 0], .bool false])) ((wr.setCell ⟨(w.heap.size + 1), 3, none⟩ (.int .i64 (v : Int))).setRow w.heap.size #[.int .i64 0, .bool false, .int .i64 0, .int .i64 0, .int .i64 0, .int .i64 0, .slice none 0 0])) := Lib.hid (HZE.out _ (below_setRow HBZ.out (Nat.le_refl _) _) HNO)
                  go_wp2_with (with_reducible refine wpList_store_row rfl 26 (.tmp 2) (.tmp 111) rfl w.heap.size #[.int .i64 0, .bool false, .int .i64 0, .int .i64 0, .int .i64 0, .int .i64 0, .slice none 0 0] rfl rfl _ _ HXZ.out (info7r _ _ _ _ _ _ _ _ _) rfl (one7r _ _ _ _ _ _ _ _ _) ?_)
                  exact bodyPost_ret (v := .tuple #[.agg #[.int .i64 0, .bool false, .int .i64 0, .int .i64 0, .int .i64 0, .int .i64 0, .slice none 0 0], .bool false]) (results_row31 rfl _ _ w.heap.size 26 #[.int .i64 0, .bool false, .int .i64 0, .int .i64 0, .int .i64 0, .int .i64 0, .slice none 0 0] (0, 0) _ (.bool false) rfl rfl (setRow_heap _ _ _ _ _ _ HXZ.out) Tryd.underlying26 rfl (info7r _ _ _ _ _ _ _ _ _)) rfl HBADQ.out
                · have HF := Lib.hid (HNXT.out { a with k := (v : Int) } A cA (wr.setCell ⟨(w.heap.size + 1), 3, none⟩ (.int .i64 (v : Int))) HSW.out HZZ.out (blk_set HY4.out 3 _) (ownsRow_setCell_below (HO.out) (by show w.heap.size + 1 < w.heap.size + 2; omega) _) HBYA.out HBZ.out)
                  go_wp2_with fail
                  refine (HV.out _).mono ?_
                  rintro e W7 ⟨rfl, rfl⟩
                  clear HSW HNXT HBD
                  go_wp2_with fail
                  go_roundw
                  case rel => exact HF.out
                  case measure => simp [intOf]; omega
              · have HSW : Hid (setW a 110 u = if ok = true then some { a with n := (v : Int) } else none) := Lib.hid (by unfold setW; rw [HVO.out]; cases ok <;> simp)
                have dd := blk_cell HY4.out 4
                have ff := blk_free HY4.out 4
                have HZZ : Hid ((wr.setCell ⟨(w.heap.size + 1), 4, none⟩ (.int .i64 (v : Int))).heap[w.heap.size]? = some (.cells #[.int .i64 0, .bool false, .int .i64 0, .int .i64 0, .int .i64 0, .int .i64 0, .slice none 0 0] 26 (0, 0))) := Lib.hid (blk_far (HY2.out) (by show w.heap.size ≠ w.heap.size + 1; omega) _)
                have HBZ : Hid (Below w.heap.size w (wr.setCell ⟨(w.heap.size + 1), 4, none⟩ (.int .i64 (v : Int)))) := Lib.hid (Below.setCell (HB.out) (by show w.heap.size ≤ w.heap.size + 1; omega) _)
                cases ok
                · have HNO := HBD.out HSW.out
                  go_wp2_with fail
                  refine (HV.out _).mono ?_
                  rintro e W7 ⟨rfl, rfl⟩
                  clear HSW HNXT HBD
                  have HXZ : Hid ((wr.setCell ⟨(w.heap.size + 1), 4, none⟩ (.int .i64 (v : Int))).heap[w.heap.size]? = some (.cells #[.int .i64 0, .bool false, .int .i64 0, .int .i64 0, .int .i64 0, .int .i64 0, .slice none 0 0] 26 (0, 0))) := Lib.hid (HZZ.out)
                  have HBADQ : Hid (ActTo w ws (.returned (.tuple #[.agg #[.int .i64 0, .bool false, .int .i64 0, .int .i64 0, .int .i64 0, .int .i64 0, .slice none 0 0], .bool false])) ((wr.setCell ⟨(w.heap.size + 1), 4, none⟩ (.int .i64 (v : Int))).setRow w.heap.size #[.int .i64 0, .bool false, .int .i64 0, .int .i64 0, .int .i64 0, .int .i64 0, .slice none 0 0])) := Lib.hid (HZE.out _ (below_setRow HBZ.out (Nat.le_refl _) _) HNO)
                  go_wp2_with (with_reducible refine wpList_store_row rfl 26 (.tmp 2) (.tmp 111) rfl w.heap.size #[.int .i64 0, .bool false, .int .i64 0, .int .i64 0, .int .i64 0, .int .i64 0, .slice none 0 0] rfl rfl _ _ HXZ.out (info7r _ _ _ _ _ _ _ _ _) rfl (one7r _ _ _ _ _ _ _ _ _) ?_)
                  exact bodyPost_ret (v := .tuple #[.agg #[.int .i64 0, .bool false, .int .i64 0, .int .i64 0, .int .i64 0, .int .i64 0, .slice none 0 0], .bool false]) (results_row31 rfl _ _ w.heap.size 26 #[.int .i64 0, .bool false, .int .i64 0, .int .i64 0, .int .i64 0, .int .i64 0, .slice none 0 0] (0, 0) _ (.bool false) rfl rfl (setRow_heap _ _ _ _ _ _ HXZ.out) Tryd.underlying26 rfl (info7r _ _ _ _ _ _ _ _ _)) rfl HBADQ.out
                · have HF := Lib.hid (HNXT.out { a with n := (v : Int) } A cA (wr.setCell ⟨(w.heap.size + 1), 4, none⟩ (.int .i64 (v : Int))) HSW.out HZZ.out (blk_set HY4.out 4 _) (ownsRow_setCell_below (HO.out) (by show w.heap.size + 1 < w.heap.size + 2; omega) _) HBYA.out HBZ.out)
                  go_wp2_with fail
                  refine (HV.out _).mono ?_
                  rintro e W7 ⟨rfl, rfl⟩
                  clear HSW HNXT HBD
                  go_wp2_with fail
                  go_roundw
                  case rel => exact HF.out
                  case measure => simp [intOf]; omega
              · have HSW : Hid (setW a 97 u = if ok = true then some { a with pos := (v : Int) } else none) := Lib.hid (by unfold setW; rw [HVO.out]; cases ok <;> simp)
                have dd := blk_cell HY4.out 5
                have ff := blk_free HY4.out 5
                have HZZ : Hid ((wr.setCell ⟨(w.heap.size + 1), 5, none⟩ (.int .i64 (v : Int))).heap[w.heap.size]? = some (.cells #[.int .i64 0, .bool false, .int .i64 0, .int .i64 0, .int .i64 0, .int .i64 0, .slice none 0 0] 26 (0, 0))) := Lib.hid (blk_far (HY2.out) (by show w.heap.size ≠ w.heap.size + 1; omega) _)
                have HBZ : Hid (Below w.heap.size w (wr.setCell ⟨(w.heap.size + 1), 5, none⟩ (.int .i64 (v : Int)))) := Lib.hid (Below.setCell (HB.out) (by show w.heap.size ≤ w.heap.size + 1; omega) _)
                cases ok
                · have HNO := HBD.out HSW.out
                  go_wp2_with fail
                  refine (HV.out _).mono ?_
                  rintro e W7 ⟨rfl, rfl⟩
                  clear HSW HNXT HBD
                  have HXZ : Hid ((wr.setCell ⟨(w.heap.size + 1), 5, none⟩ (.int .i64 (v : Int))).heap[w.heap.size]? = some (.cells #[.int .i64 0, .bool false, .int .i64 0, .int .i64 0, .int .i64 0, .int .i64 0, .slice none 0 0] 26 (0, 0))) := Lib.hid (HZZ.out)
                  have HBADQ : Hid (ActTo w ws (.returned (.tuple #[.agg #[.int .i64 0, .bool false, .int .i64 0, .int .i64 0, .int .i64 0, .int .i64 0, .slice none 0 0], .bool false])) ((wr.setCell ⟨(w.heap.size + 1), 5, none⟩ (.int .i64 (v : Int))).setRow w.heap.size #[.int .i64 0, .bool false, .int .i64 0, .int .i64 0, .int .i64 0, .int .i64 0, .slice none 0 0])) := Lib.hid (HZE.out _ (below_setRow HBZ.out (Nat.le_refl _) _) HNO)
                  go_wp2_with (with_reducible refine wpList_store_row rfl 26 (.tmp 2) (.tmp 111) rfl w.heap.size #[.int .i64 0, .bool false, .int .i64 0, .int .i64 0, .int .i64 0, .int .i64 0, .slice none 0 0] rfl rfl _ _ HXZ.out (info7r _ _ _ _ _ _ _ _ _) rfl (one7r _ _ _ _ _ _ _ _ _) ?_)
                  exact bodyPost_ret (v := .tuple #[.agg #[.int .i64 0, .bool false, .int .i64 0, .int .i64 0, .int .i64 0, .int .i64 0, .slice none 0 0], .bool false]) (results_row31 rfl _ _ w.heap.size 26 #[.int .i64 0, .bool false, .int .i64 0, .int .i64 0, .int .i64 0, .int .i64 0, .slice none 0 0] (0, 0) _ (.bool false) rfl rfl (setRow_heap _ _ _ _ _ _ HXZ.out) Tryd.underlying26 rfl (info7r _ _ _ _ _ _ _ _ _)) rfl HBADQ.out
                · have HF := Lib.hid (HNXT.out { a with pos := (v : Int) } A cA (wr.setCell ⟨(w.heap.size + 1), 5, none⟩ (.int .i64 (v : Int))) HSW.out HZZ.out (blk_set HY4.out 5 _) (ownsRow_setCell_below (HO.out) (by show w.heap.size + 1 < w.heap.size + 2; omega) _) HBYA.out HBZ.out)
                  go_wp2_with fail
                  refine (HV.out _).mono ?_
                  rintro e W7 ⟨rfl, rfl⟩
                  clear HSW HNXT HBD
                  go_wp2_with fail
                  go_roundw
                  case rel => exact HF.out
                  case measure => simp [intOf]; omega
              · go_wp2_with fail
                refine (HV.out _).mono ?_
                rintro e W7 ⟨rfl, rfl⟩
                go_wp2_with fail
                refine (HBT.out _).mono ?_
                rintro e w7 ⟨v7, ok7, rfl, hb7, hy7, hn7⟩
                have HX7 := Lib.hid ((hb7.block _ (blk_lt HY4.out)).trans HY4.out)
                have HZ7 := Lib.hid ((hb7.block _ (blk_lt HY2.out)).trans HY2.out)
                have HB7 := Lib.hid (HB.out.trans (hb7.mono HB.out.size))
                have HBB := Lib.hid (show w.heap.size + 2 ≤ wr.heap.size from blk_lt HY4.out)
                have dd := blk_cell HX7.out 6
                have ff := blk_free HX7.out 6
                have HSW : Hid (setW a 98 u = (bytL u).map fun b => { a with b := b }) := Lib.hid (by unfold setW; simp)
                cases hbb : bytL u with
                | none =>
                  obtain ⟨rfl, rfl⟩ := hn7 hbb
                  have HNO := HBD.out (by rw [HSW.out, hbb]; rfl)
                  have HZZ : Hid ((w7.setCell ⟨(w.heap.size + 1), 6, none⟩ (.slice none 0 0)).heap[w.heap.size]? = some (.cells #[.int .i64 0, .bool false, .int .i64 0, .int .i64 0, .int .i64 0, .int .i64 0, .slice none 0 0] 26 (0, 0))) := Lib.hid (blk_far HZ7.out (by show w.heap.size ≠ w.heap.size + 1; omega) _)
                  have HBZ : Hid (Below w.heap.size w (w7.setCell ⟨(w.heap.size + 1), 6, none⟩ (.slice none 0 0))) := Lib.hid (HB7.out.setCell (by show w.heap.size ≤ w.heap.size + 1; omega) _)
                  clear HSW HNXT HBD hy7 hn7 hb7 hbb
                  have HXZ : Hid ((w7.setCell ⟨(w.heap.size + 1), 6, none⟩ (.slice none 0 0)).heap[w.heap.size]? = some (.cells #[.int .i64 0, .bool false, .int .i64 0, .int .i64 0, .int .i64 0, .int .i64 0, .slice none 0 0] 26 (0, 0))) := Lib.hid (HZZ.out)
                  have HBADQ : Hid (ActTo w ws (.returned (.tuple #[.agg #[.int .i64 0, .bool false, .int .i64 0, .int .i64 0, .int .i64 0, .int .i64 0, .slice none 0 0], .bool false])) ((w7.setCell ⟨(w.heap.size + 1), 6, none⟩ (.slice none 0 0)).setRow w.heap.size #[.int .i64 0, .bool false, .int .i64 0, .int .i64 0, .int .i64 0, .int .i64 0, .slice none 0 0])) := Lib.hid (HZE.out _ (below_setRow HBZ.out (Nat.le_refl _) _) HNO)
                  go_wp2_with (with_reducible refine wpList_store_row rfl 26 (.tmp 2) (.tmp 111) rfl w.heap.size #[.int .i64 0, .bool false, .int .i64 0, .int .i64 0, .int .i64 0, .int .i64 0, .slice none 0 0] rfl rfl _ _ HXZ.out (info7r _ _ _ _ _ _ _ _ _) rfl (one7r _ _ _ _ _ _ _ _ _) ?_)
                  exact bodyPost_ret (v := .tuple #[.agg #[.int .i64 0, .bool false, .int .i64 0, .int .i64 0, .int .i64 0, .int .i64 0, .slice none 0 0], .bool false]) (results_row31 rfl _ _ w.heap.size 26 #[.int .i64 0, .bool false, .int .i64 0, .int .i64 0, .int .i64 0, .int .i64 0, .slice none 0 0] (0, 0) _ (.bool false) rfl rfl (setRow_heap _ _ _ _ _ _ HXZ.out) Tryd.underlying26 rfl (info7r _ _ _ _ _ _ _ _ _)) rfl HBADQ.out
                | some b =>
                  obtain ⟨rfl, ho7, hby7⟩ := hy7 b hbb
                  obtain ⟨A7, c7, rfl, _, _⟩ := ho7.bs hby7
                  have HF := Lib.hid (HNXT.out { a with b := b } A7 c7 (w7.setCell ⟨(w.heap.size + 1), 6, none⟩ (.slice A7 b.length c7)) (by rw [HSW.out, hbb]; rfl) (blk_far HZ7.out (by show w.heap.size ≠ w.heap.size + 1; omega) _) (blk_set HX7.out 6 _) (ownsRow_setCell_below (ho7.base HBB.out) (by show w.heap.size + 1 < w.heap.size + 2; omega) _) hby7 (HB7.out.setCell (by show w.heap.size ≤ w.heap.size + 1; omega) _))
                  obtain ⟨bn, hbn⟩ : ∃ bn, b.length = bn := ⟨_, rfl⟩
                  rw [hbn] at HF
                  clear HSW HNXT HBD hy7 hn7 hb7 hbb ho7 hby7
                  rw [hbn]
                  clear hbn
                  go_wp2_with fail
                  go_roundw
                  case rel => exact HF.out
                  case measure => simp [intOf]; omega
              · have dd := blk_cell HY4.out 1
                have ff := blk_free HY4.out 1
                by_cases h1 : u = wrW
                · have HSW : setW a 111 u = some { a with yes := true } := by unfold setW; simp [h1]
                  have q1 : ((str u).toList == ([114, 101, 97, 100] : List UInt8)) = false := by rw [HRD.out, decide_eq_false_iff_not, h1]; decide
                  have q2 : ((str u).toList == ([119, 114, 105, 116, 101] : List UInt8)) = true := by rw [HWR.out, decide_eq_true_eq]; exact h1
                  clear h1
                  have HF := Lib.hid (HNXT.out { a with yes := true } A cA (wr.setCell ⟨(w.heap.size + 1), 1, none⟩ (.bool true)) HSW (blk_far HY2.out (by show w.heap.size ≠ w.heap.size + 1; omega) _) (blk_set HY4.out 1 _) (ownsRow_setCell_below (HO.out) (by show w.heap.size + 1 < w.heap.size + 2; omega) _) HBYA.out (HB.out.setCell (by show w.heap.size ≤ w.heap.size + 1; omega) _))
                  clear HNXT HBD HSW
                  generalize str u = U at *
                  go_wp2_with fail
                  refine (HV.out _).mono ?_
                  rintro e W7 ⟨rfl, rfl⟩
                  go_wp2_with fail
                  go_roundw
                  case rel => exact HF.out
                  case measure => simp [intOf]; omega
                · have q2 : ((str u).toList == ([119, 114, 105, 116, 101] : List UInt8)) = false := by rw [HWR.out, decide_eq_false_iff_not]; exact h1
                  by_cases h2 : u = rdW
                  · have HSW : setW a 111 u = some { a with yes := false } := by unfold setW; simp [h1, h2]; decide
                    have q1 : ((str u).toList == ([114, 101, 97, 100] : List UInt8)) = true := by rw [HRD.out, decide_eq_true_eq]; exact h2
                    clear h1 h2
                    have HF := Lib.hid (HNXT.out { a with yes := false } A cA (wr.setCell ⟨(w.heap.size + 1), 1, none⟩ (.bool false)) HSW (blk_far HY2.out (by show w.heap.size ≠ w.heap.size + 1; omega) _) (blk_set HY4.out 1 _) (ownsRow_setCell_below (HO.out) (by show w.heap.size + 1 < w.heap.size + 2; omega) _) HBYA.out (HB.out.setCell (by show w.heap.size ≤ w.heap.size + 1; omega) _))
                    clear HNXT HBD HSW
                    generalize str u = U at *
                    go_wp2_with fail
                    refine (HV.out _).mono ?_
                    rintro e W7 ⟨rfl, rfl⟩
                    go_wp2_with fail
                    go_roundw
                    case rel => exact HF.out
                    case measure => simp [intOf]; omega
                  · have HNO := HBD.out (by unfold setW; simp [h1, h2])
                    have q1 : ((str u).toList == ([114, 101, 97, 100] : List UInt8)) = false := by rw [HRD.out, decide_eq_false_iff_not]; exact h2
                    have HZZ : Hid ((wr.setCell ⟨(w.heap.size + 1), 1, none⟩ (.bool false)).heap[w.heap.size]? = some (.cells #[.int .i64 0, .bool false, .int .i64 0, .int .i64 0, .int .i64 0, .int .i64 0, .slice none 0 0] 26 (0, 0))) := Lib.hid (blk_far HY2.out (by show w.heap.size ≠ w.heap.size + 1; omega) _)
                    have HBZ : Hid (Below w.heap.size w (wr.setCell ⟨(w.heap.size + 1), 1, none⟩ (.bool false))) := Lib.hid (HB.out.setCell (by show w.heap.size ≤ w.heap.size + 1; omega) _)
                    clear h1 h2 HNXT HBD
                    generalize str u = U at *
                    go_wp2_with fail
                    refine (HV.out _).mono ?_
                    rintro e W7 ⟨rfl, rfl⟩
                    have HXZ : Hid ((wr.setCell ⟨(w.heap.size + 1), 1, none⟩ (.bool false)).heap[w.heap.size]? = some (.cells #[.int .i64 0, .bool false, .int .i64 0, .int .i64 0, .int .i64 0, .int .i64 0, .slice none 0 0] 26 (0, 0))) := Lib.hid (HZZ.out)
                    have HBADQ : Hid (ActTo w ws (.returned (.tuple #[.agg #[.int .i64 0, .bool false, .int .i64 0, .int .i64 0, .int .i64 0, .int .i64 0, .slice none 0 0], .bool false])) ((wr.setCell ⟨(w.heap.size + 1), 1, none⟩ (.bool false)).setRow w.heap.size #[.int .i64 0, .bool false, .int .i64 0, .int .i64 0, .int .i64 0, .int .i64 0, .slice none 0 0])) := Lib.hid (HZE.out _ (below_setRow HBZ.out (Nat.le_refl _) _) HNO)
                    go_wp2_with (with_reducible refine wpList_store_row rfl 26 (.tmp 2) (.tmp 111) rfl w.heap.size #[.int .i64 0, .bool false, .int .i64 0, .int .i64 0, .int .i64 0, .int .i64 0, .slice none 0 0] rfl rfl _ _ HXZ.out (info7r _ _ _ _ _ _ _ _ _) rfl (one7r _ _ _ _ _ _ _ _ _) ?_)
                    exact bodyPost_ret (v := .tuple #[.agg #[.int .i64 0, .bool false, .int .i64 0, .int .i64 0, .int .i64 0, .int .i64 0, .slice none 0 0], .bool false]) (results_row31 rfl _ _ w.heap.size 26 #[.int .i64 0, .bool false, .int .i64 0, .int .i64 0, .int .i64 0, .int .i64 0, .slice none 0 0] (0, 0) _ (.bool false) rfl rfl (setRow_heap _ _ _ _ _ _ HXZ.out) Tryd.underlying26 rfl (info7r _ _ _ _ _ _ _ _ _)) rfl HBADQ.out
              · have dd := blk_cell HY4.out 1
                have ff := blk_free HY4.out 1
                by_cases h1 : u = noW
                · have HSW : setW a 115 u = some { a with yes := true, which := 0 } := by unfold setW; simp [h1]
                  have q1 : ((str u).toList == ([110, 111, 110, 101] : List UInt8)) = true := by rw [HNO_.out, decide_eq_true_eq]; exact h1
                  have HS1 := Lib.hid (blk_set HY4.out 1 (.bool true))
                  have HS2 := Lib.hid (blk_set HS1.out 2 (.int .i64 (v : Int)))
                  have d2 := blk_cell HS1.out 2
                  have f2 := blk_free HS1.out 2
                  have d3 := blk_cell HS2.out 2
                  have f3 := blk_free HS2.out 2
                  have d4 := blk_cell HS2.out 1
                  have HF := Lib.hid (HNXT.out { a with yes := true, which := 0 } A cA (((wr.setCell ⟨(w.heap.size + 1), 1, none⟩ (.bool true)).setCell ⟨(w.heap.size + 1), 2, none⟩ (.int .i64 (v : Int))).setCell ⟨(w.heap.size + 1), 2, none⟩ (.int .i64 0)) HSW (blk_far (blk_far (blk_far (HY2.out) (by show w.heap.size ≠ w.heap.size + 1; omega) _) (by show w.heap.size ≠ w.heap.size + 1; omega) _) (by show w.heap.size ≠ w.heap.size + 1; omega) _) (blk_set HS2.out 2 _) (ownsRow_setCell_below (ownsRow_setCell_below (ownsRow_setCell_below (HO.out) (by show w.heap.size + 1 < w.heap.size + 2; omega) _) (by show w.heap.size + 1 < w.heap.size + 2; omega) _) (by show w.heap.size + 1 < w.heap.size + 2; omega) _) HBYA.out (Below.setCell (Below.setCell (Below.setCell (HB.out) (by show w.heap.size ≤ w.heap.size + 1; omega) _) (by show w.heap.size ≤ w.heap.size + 1; omega) _) (by show w.heap.size ≤ w.heap.size + 1; omega) _))
                  clear HNXT HBD HSW h1
                  generalize str u = U at *
                  go_wp2_with fail
                  refine (HV.out _).mono ?_
                  rintro e W7 ⟨rfl, rfl⟩
                  go_wp2_with fail
                  go_roundw
                  case rel => exact HF.out
                  case measure => simp [intOf]; omega
                · have q1 : ((str u).toList == ([110, 111, 110, 101] : List UInt8)) = false := by rw [HNO_.out, decide_eq_false_iff_not]; exact h1
                  have HSW : Hid (setW a 115 u = if ok = true then some { a with yes := false, which := (v : Int) } else none) := Lib.hid (by unfold setW; simp [h1]; rw [HVO.out]; cases ok <;> simp)
                  have HS1 := Lib.hid (blk_set HY4.out 1 (.bool false))
                  have HS2 := Lib.hid (blk_set HS1.out 2 (.int .i64 (v : Int)))
                  have d2 := blk_cell HS1.out 2
                  have f2 := blk_free HS1.out 2
                  have d4 := blk_cell HS2.out 1
                  have HZZ : Hid (((wr.setCell ⟨(w.heap.size + 1), 1, none⟩ (.bool false)).setCell ⟨(w.heap.size + 1), 2, none⟩ (.int .i64 (v : Int))).heap[w.heap.size]? = some (.cells #[.int .i64 0, .bool false, .int .i64 0, .int .i64 0, .int .i64 0, .int .i64 0, .slice none 0 0] 26 (0, 0))) := Lib.hid (blk_far (blk_far (HY2.out) (by show w.heap.size ≠ w.heap.size + 1; omega) _) (by show w.heap.size ≠ w.heap.size + 1; omega) _)
                  have HBZ : Hid (Below w.heap.size w ((wr.setCell ⟨(w.heap.size + 1), 1, none⟩ (.bool false)).setCell ⟨(w.heap.size + 1), 2, none⟩ (.int .i64 (v : Int)))) := Lib.hid (Below.setCell (Below.setCell (HB.out) (by show w.heap.size ≤ w.heap.size + 1; omega) _) (by show w.heap.size ≤ w.heap.size + 1; omega) _)
                  cases ok
                  · have HNO := HBD.out HSW.out
                    clear HNXT HBD HSW h1
                    generalize str u = U at *
                    go_wp2_with fail
                    refine (HV.out _).mono ?_
                    rintro e W7 ⟨rfl, rfl⟩
                    have HXZ : Hid (((wr.setCell ⟨(w.heap.size + 1), 1, none⟩ (.bool false)).setCell ⟨(w.heap.size + 1), 2, none⟩ (.int .i64 (v : Int))).heap[w.heap.size]? = some (.cells #[.int .i64 0, .bool false, .int .i64 0, .int .i64 0, .int .i64 0, .int .i64 0, .slice none 0 0] 26 (0, 0))) := Lib.hid (HZZ.out)
                    have HBADQ : Hid (ActTo w ws (.returned (.tuple #[.agg #[.int .i64 0, .bool false, .int .i64 0, .int .i64 0, .int .i64 0, .int .i64 0, .slice none 0 0], .bool false])) (((wr.setCell ⟨(w.heap.size + 1), 1, none⟩ (.bool false)).setCell ⟨(w.heap.size + 1), 2, none⟩ (.int .i64 (v : Int))).setRow w.heap.size #[.int .i64 0, .bool false, .int .i64 0, .int .i64 0, .int .i64 0, .int .i64 0, .slice none 0 0])) := Lib.hid (HZE.out _ (below_setRow HBZ.out (Nat.le_refl _) _) HNO)
                    go_wp2_with (with_reducible refine wpList_store_row rfl 26 (.tmp 2) (.tmp 111) rfl w.heap.size #[.int .i64 0, .bool false, .int .i64 0, .int .i64 0, .int .i64 0, .int .i64 0, .slice none 0 0] rfl rfl _ _ HXZ.out (info7r _ _ _ _ _ _ _ _ _) rfl (one7r _ _ _ _ _ _ _ _ _) ?_)
                    exact bodyPost_ret (v := .tuple #[.agg #[.int .i64 0, .bool false, .int .i64 0, .int .i64 0, .int .i64 0, .int .i64 0, .slice none 0 0], .bool false]) (results_row31 rfl _ _ w.heap.size 26 #[.int .i64 0, .bool false, .int .i64 0, .int .i64 0, .int .i64 0, .int .i64 0, .slice none 0 0] (0, 0) _ (.bool false) rfl rfl (setRow_heap _ _ _ _ _ _ HXZ.out) Tryd.underlying26 rfl (info7r _ _ _ _ _ _ _ _ _)) rfl HBADQ.out
                  · have HF := Lib.hid (HNXT.out { a with yes := false, which := (v : Int) } A cA ((wr.setCell ⟨(w.heap.size + 1), 1, none⟩ (.bool false)).setCell ⟨(w.heap.size + 1), 2, none⟩ (.int .i64 (v : Int))) HSW.out HZZ.out HS2.out (ownsRow_setCell_below (ownsRow_setCell_below (HO.out) (by show w.heap.size + 1 < w.heap.size + 2; omega) _) (by show w.heap.size + 1 < w.heap.size + 2; omega) _) HBYA.out HBZ.out)
                    clear HNXT HBD HSW h1
                    generalize str u = U at *
                    go_wp2_with fail
                    refine (HV.out _).mono ?_
                    rintro e W7 ⟨rfl, rfl⟩
                    go_wp2_with fail
                    go_roundw
                    case rel => exact HF.out
                    case measure => simp [intOf]; omega
            · obtain rfl : j = L := by omega
              have HFIN : Hid (∀ W, Below w.heap.size w W → Own W w.heap.size (.slice A a.b.length cA) a.b → ActTo w ws (.returned (.tuple #[.agg #[.int .i64 a.kind, .bool a.yes, .int .i64 a.which, .int .i64 a.k, .int .i64 a.n, .int .i64 a.pos, .slice A a.b.length cA], .bool (mayA a)])) W) := Lib.hid (fun W h1 h2 => ⟨a, A, cA, mayA a, rfl, h1, h2, HBYA.out, by
                rw [HAC.out (by rw [HRLL.out, HLL.out]), HSS.out, List.drop_of_length_le (by rw [HLL.out]; exact Nat.le_refl _)]; rfl⟩)
              have HMY := Lib.hid (fun W => rmay_any a.kind a.yes a.which a.k a.n a.pos A a.b.length cA a.b rfl (own_len9 HO.out) W)
              clear HSS HAC
              obtain ⟨kk, yy, z1, z2, z3, z4, bb⟩ := a
              generalize hMB : mayA ⟨kk, yy, z1, z2, z3, z4, bb⟩ = MB at *
              have HKR : Hid (wr.heap[(w.heap.size + 1)]? = some (.cells #[.int .i64 kk, .bool yy, .int .i64 z1, .int .i64 z2, .int .i64 z3, .int .i64 z4, .slice A bb.length cA] 26 (0, 0)) ∧ (∃ cs : Array Value, cs.size = 7 ∧ wr.heap[w.heap.size]? = some (.cells cs 26 (0, 0))) ∧ Own wr (w.heap.size + 2) (.slice A bb.length cA) bb ∧ Below w.heap.size w wr) := Lib.hid ⟨HY4.out, ⟨_, rfl, HY2.out⟩, HO.out, HB.out⟩
              have HKB : Hid (∀ W W', (W.heap[(w.heap.size + 1)]? = some (.cells #[.int .i64 kk, .bool yy, .int .i64 z1, .int .i64 z2, .int .i64 z3, .int .i64 z4, .slice A bb.length cA] 26 (0, 0)) ∧ (∃ cs : Array Value, cs.size = 7 ∧ W.heap[w.heap.size]? = some (.cells cs 26 (0, 0))) ∧ Own W (w.heap.size + 2) (.slice A bb.length cA) bb ∧ Below w.heap.size w W) → Below W.heap.size W W' → W'.heap[(w.heap.size + 1)]? = some (.cells #[.int .i64 kk, .bool yy, .int .i64 z1, .int .i64 z2, .int .i64 z3, .int .i64 z4, .slice A bb.length cA] 26 (0, 0)) ∧ (∃ cs : Array Value, cs.size = 7 ∧ W'.heap[w.heap.size]? = some (.cells cs 26 (0, 0))) ∧ Own W' (w.heap.size + 2) (.slice A bb.length cA) bb ∧ Below w.heap.size w W') := Lib.hid (fun W W' h hb => by
                obtain ⟨h1, ⟨cs, h2, h3⟩, h4, h5⟩ := h
                exact ⟨(hb.block _ (blk_lt h1)).trans h1, ⟨cs, h2, (hb.block _ (blk_lt h3)).trans h3⟩, h4.below hb, h5.trans (hb.mono h5.size)⟩)
              clear hMB HBYA HO HB
              go_upto_region 38 with (fail)
              refine wp_region_F (S := (fun w' => w'.heap[(w.heap.size + 1)]? = some (.cells #[.int .i64 kk, .bool yy, .int .i64 z1, .int .i64 z2, .int .i64 z3, .int .i64 z4, .slice A bb.length cA] 26 (0, 0)) ∧ (∃ cs : Array Value, cs.size = 7 ∧ w'.heap[w.heap.size]? = some (.cells cs 26 (0, 0))) ∧ Own w' (w.heap.size + 2) (.slice A bb.length cA) bb ∧ Below w.heap.size w w')) [] (by kernel_rfl) (HKB.out _ _ HKR.out (Below.refl _ _).drew) (fun hHeld => ?_)
              refine wpAnyF_take (i := 0) (oi := _) (v := ?_) rfl (by kernel_rfl) (by kernel_rfl) (by kernel_rfl) (by kernel_rfl) (fun _ _ _ h => h) (Or.inl ⟨by rfl, ?_⟩) (by assumption) ?_
              rotate_left 1
              · intro w hSw
                (try dsimp only at hSw)
                have hq4 := hSw.1
                have q0 := blk_cell hq4 0
                have q1 := blk_cell hq4 1
                have q2 := blk_cell hq4 2
                have q3 := blk_cell hq4 3
                have q4 := blk_cell hq4 4
                have q5 := blk_cell hq4 5
                have q6 := blk_cell hq4 6
                clear hq4 hSw
                (first | (go_simp; done) | (go_simp; with_reducible rfl))
              (try simp only [Act.put, List.getElem_toArray, List.getElem_cons_succ, List.getElem_cons_zero, List.setIfInBounds_toArray, List.set_cons_zero, List.set_cons_succ])
              refine wpAnyF_take (i := 1) (oi := _) (v := ?_) rfl (by kernel_rfl) (by kernel_rfl) (by kernel_rfl) (by kernel_rfl) (fun _ _ _ h => h) (Or.inl ⟨by rfl, ?_⟩) (by assumption) ?_
              rotate_left 1
              · intro w hSw
                (try dsimp only at hSw)
                have hq4 := hSw.1
                have q0 := blk_cell hq4 0
                have q1 := blk_cell hq4 1
                have q2 := blk_cell hq4 2
                have q3 := blk_cell hq4 3
                have q4 := blk_cell hq4 4
                have q5 := blk_cell hq4 5
                have q6 := blk_cell hq4 6
                clear hq4 hSw
                (first | (go_simp; done) | (go_simp; with_reducible rfl))
              (try simp only [Act.put, List.getElem_toArray, List.getElem_cons_succ, List.getElem_cons_zero, List.setIfInBounds_toArray, List.set_cons_zero, List.set_cons_succ])
              refine wpAnyF_ready (rs := [2]) (by kernel_rfl) (by simp) ?_
              refine AllReadyF.cons (o := _) rfl (fun K hK => ?_) AllReadyF.nil
              go_simp
              go_at_call 19
              with_reducible refine (HMY.out _).mono ?_
              rintro e w9 ⟨rfl, hb9⟩
              have HB9 := Lib.hid (HKB.out _ _ hHeld hb9)
              clear hb9
              refine hK.out _ _ (HB9.out) (fun hHeld2 => ?_)
              clear hK K
              (try simp only [Act.put, List.getElem_toArray, List.getElem_cons_succ, List.getElem_cons_zero, List.setIfInBounds_toArray, List.set_cons_zero, List.set_cons_succ])
              refine wpAnyF_ready (rs := [3]) (by kernel_rfl) (by simp) ?_
              refine AllReadyF.cons (o := _) rfl (fun K hK => ?_) AllReadyF.nil
              obtain ⟨k1, ⟨cs9, hcs9, k2⟩, k3, k4⟩ := HB9.out
              have hlt9 := blk_lt k1
              have HX9 := Lib.hid k2
              have HC9 := Lib.hid hcs9
              have HR9 := Lib.hid (setRow_heap w9 w.heap.size cs9 #[.int .i64 kk, .bool yy, .int .i64 z1, .int .i64 z2, .int .i64 z3, .int .i64 z4, .slice A bb.length cA] 26 (0, 0) k2)
              have HO9 := Lib.hid (own_setRow9 k3 (show w.heap.size < w.heap.size + 2 by omega) #[.int .i64 kk, .bool yy, .int .i64 z1, .int .i64 z2, .int .i64 z3, .int .i64 z4, .slice A bb.length cA])
              have HB10 := Lib.hid (below_setRow k4 (Nat.le_refl _) #[.int .i64 kk, .bool yy, .int .i64 z1, .int .i64 z2, .int .i64 z3, .int .i64 z4, .slice A bb.length cA])
              have HK9 : Hid ((w9.setRow w.heap.size #[.int .i64 kk, .bool yy, .int .i64 z1, .int .i64 z2, .int .i64 z3, .int .i64 z4, .slice A bb.length cA]).heap[(w.heap.size + 1)]? = some (.cells #[.int .i64 kk, .bool yy, .int .i64 z1, .int .i64 z2, .int .i64 z3, .int .i64 z4, .slice A bb.length cA] 26 (0, 0)) ∧ (∃ cs : Array Value, cs.size = 7 ∧ (w9.setRow w.heap.size #[.int .i64 kk, .bool yy, .int .i64 z1, .int .i64 z2, .int .i64 z3, .int .i64 z4, .slice A bb.length cA]).heap[w.heap.size]? = some (.cells cs 26 (0, 0))) ∧ Own (w9.setRow w.heap.size #[.int .i64 kk, .bool yy, .int .i64 z1, .int .i64 z2, .int .i64 z3, .int .i64 z4, .slice A bb.length cA]) (w.heap.size + 2) (.slice A bb.length cA) bb ∧ Below w.heap.size w (w9.setRow w.heap.size #[.int .i64 kk, .bool yy, .int .i64 z1, .int .i64 z2, .int .i64 z3, .int .i64 z4, .slice A bb.length cA])) := Lib.hid ⟨(setRow_other _ _ _ _ (by omega)).trans k1, ⟨_, rfl, HR9.out⟩, HO9.out, HB10.out⟩
              have HF := Lib.hid (HFIN.out _ HB10.out (HO9.out.base (show w.heap.size ≤ w.heap.size + 2 by omega)))
              clear k1 k2 k3 k4 hcs9
              split
              · refine wp_store_row 26 (.tmp 2) (.tmp 112) rfl w.heap.size #[.int .i64 kk, .bool yy, .int .i64 z1, .int .i64 z2, .int .i64 z3, .int .i64 z4, .slice A bb.length cA] rfl rfl 26 cs9 HX9.out (info7r _ _ _ _ _ _ _ _ _) HC9.out (one7r _ _ _ _ _ _ _ _ _) ?_
                refine hK.out _ _ (HK9.out) (fun hHeld3 => ?_)
                clear hK K
                (try simp only [Act.put, List.getElem_toArray, List.getElem_cons_succ, List.getElem_cons_zero, List.setIfInBounds_toArray, List.set_cons_zero, List.set_cons_succ])
                refine wpAnyF_take (i := 4) (oi := _) (v := ?_) rfl (by kernel_rfl) (by kernel_rfl) (by kernel_rfl) (by kernel_rfl) (fun _ _ _ h => h) (Or.inl ⟨by rfl, ?_⟩) (by assumption) ?_
                rotate_left 1
                · intro w hSw
                  (first | (go_simp; done) | (go_simp; with_reducible rfl))
                (try simp only [Act.put, List.getElem_toArray, List.getElem_cons_succ, List.getElem_cons_zero, List.setIfInBounds_toArray, List.set_cons_zero, List.set_cons_succ])
                refine wpAnyF_done (by kernel_rfl) ?_ _
                go_wp2_with fail
                exact bodyPost_ret (v := .tuple #[.agg #[.int .i64 kk, .bool yy, .int .i64 z1, .int .i64 z2, .int .i64 z3, .int .i64 z4, .slice A bb.length cA], .bool MB]) (results_row31 rfl _ _ w.heap.size 26 #[.int .i64 kk, .bool yy, .int .i64 z1, .int .i64 z2, .int .i64 z3, .int .i64 z4, .slice A bb.length cA] (0, 0) _ (.bool MB) rfl rfl HR9.out Tryd.underlying26 rfl (info7r _ _ _ _ _ _ _ _ _)) rfl HF.out
              · rename_i hx; exact absurd rfl hx
        · have e1 : ((n : Int) != 1 + (L : Int)) = true := by rw [bne_iff_ne]; omega
          have HNO := HAN.out (by rw [HLL.out]; have := HRL.out; omega)
          have HXZ := HY2
          have HBADQ : Hid (ActTo w ws (.returned (.tuple #[.agg #[.int .i64 0, .bool false, .int .i64 0, .int .i64 0, .int .i64 0, .int .i64 0, .slice none 0 0], .bool false])) (wr.setRow w.heap.size #[.int .i64 0, .bool false, .int .i64 0, .int .i64 0, .int .i64 0, .int .i64 0, .slice none 0 0])) := Lib.hid (HZE.out _ (below_setRow HB.out (Nat.le_refl _) _) HNO)
          clear HAN HAC HST2 HR2
          go_wp2_with fail
          refine (HKO.out _).mono ?_
          rintro e W8 ⟨rfl, rfl⟩
          go_wp2_with (with_reducible refine wpList_store_row rfl 26 (.tmp 2) (.tmp 41) rfl w.heap.size #[.int .i64 0, .bool false, .int .i64 0, .int .i64 0, .int .i64 0, .int .i64 0, .slice none 0 0] rfl rfl _ _ HXZ.out (info7r _ _ _ _ _ _ _ _ _) rfl (one7r _ _ _ _ _ _ _ _ _) ?_)
          exact bodyPost_ret (v := .tuple #[.agg #[.int .i64 0, .bool false, .int .i64 0, .int .i64 0, .int .i64 0, .int .i64 0, .slice none 0 0], .bool false]) (results_row31 rfl _ _ w.heap.size 26 #[.int .i64 0, .bool false, .int .i64 0, .int .i64 0, .int .i64 0, .int .i64 0, .slice none 0 0] (0, 0) _ (.bool false) rfl rfl (setRow_heap _ _ _ _ _ _ HXZ.out) Tryd.underlying26 rfl (info7r _ _ _ _ _ _ _ _ _)) rfl HBADQ.out
end Go.Proofs.YtcaogiaoabdkdaaDoor
