/-
  Joined: NvRE.
-/
import Derived.Test.YthigknolpdohoaaZrA
namespace Go.Proofs.Ythigknolpdohoaa
set_option maxRecDepth 100000
section
open Go.RowKit Go
set_option linter.unusedVariables false
set_option linter.unusedSimpArgs false
set_option maxRecDepth 100000
theorem grown_undrew {w W : World} {r : Option Nat} (h : w.drew.grownBy W r) : w.grownBy W r := ⟨h.os, h.tape, h.output, h.size, h.block⟩
/-- the rows' blocks and the device's own -/
def R5 (r : RI) (j : Nat) : Prop := j = r.g ∨ j = r.bl ∨ j = r.bn ∨ j = r.bp ∨ j = r.bm
theorem r5_rs (r : RI) (kv av : Value) {j : Nat} (h : R5 r j) : RS r kv av j := by
  rcases h with h | h | h | h | h
  · exact .inl h
  · exact .inr (.inl h)
  · exact .inr (.inr (.inl h))
  · exact .inr (.inr (.inr (.inl h)))
  · exact .inr (.inr (.inr (.inr (.inl h))))
theorem row_reads {W : World} {q a : Nat} {l : List Nat} (h : W.heap[q]? = some (.cells (bvals l).toArray 5 (0, 0))) (ha : a + 8 ≤ l.length) : ∀ j v, (bvals ((l.drop a).take 8))[j]? = some v → W.cell? ((⟨q, a, none⟩ : Addr).add j) = some v := fun j v hj => by
  have hj8 : j < 8 := by
    rcases Nat.lt_or_ge j 8 with h1 | h1
    · exact h1
    · rw [List.getElem?_eq_none (by rw [bvals_len, List.length_take]; omega)] at hj; cases hj
  rw [Go.WideShapes.add_plain, blk_cell h, List.getElem?_toArray, ← hj]
  unfold bvals
  rw [List.getElem?_map, List.getElem?_map, List.getElem?_take_of_lt hj8, List.getElem?_drop]
theorem run_part8N (q N a a2 e9 : Nat) (ha : a2 = a + 8) (ha2 : a2 ≤ N) (he : N - a = e9) (W : World) :
    (Instr.slice 28 (.slice (some ⟨q, 0, none⟩) N N) (some (.int .i64 (a : Int))) (some (.int .i64 (a2 : Int))) none).run Try.prog W = .ok (.slice (some ⟨q, a, none⟩) 8 e9) W := by
  have h := run_partN (some ⟨q, 0, none⟩) N N a a2 8 ha.symm ha2 W
  rw [he] at h
  have e : cutA (some ⟨q, 0, none⟩) N a = some ⟨q, a, none⟩ := by
    unfold cutA
    rw [if_neg (by omega)]
    simp [Go.WideShapes.add_plain]
  rwa [e] at h
/-- the document's device, of words -/
def RL (W : World) (r : RI) (N M : Nat) (kv av : Value) (pl : List Nat) (off : Bool) (u k : Nat) (al : List Value) (V : List Wd) : Prop := RW W r N M kv av pl off u k al (lastsQ V) (nowsL V) (V.map (·.pend)) (V.map (·.mark))
theorem take8_lasts {V : List Wd} (h : OkM V) {j : Nat} {x : Wd} (hx : V[j]? = some x) : ((lastsQ V).drop (8 * j)).take 8 = x.lasts := chunk8 Wd.lasts (fun y hy => (h y hy).l) hx
theorem take8_now {V : List Wd} (h : OkM V) {j : Nat} {x : Wd} (hx : V[j]? = some x) : ((nowsL V).drop (8 * j)).take 8 = x.now := chunk8 Wd.now (fun y hy => (h y hy).n) hx
theorem set_lasts {V : List Wd} (h : OkM V) {j : Nat} {x y : Wd} (hx : V[j]? = some x) (hy : y.lasts.length = 8) : lastsQ (V.set j y) = splB (lastsQ V) (8 * j) y.lasts := flat_set Wd.lasts (fun z hz => (h z hz).l) hx hy
theorem set_now {V : List Wd} (h : OkM V) {j : Nat} {x y : Wd} (hx : V[j]? = some x) (hy : y.now.length = 8) : nowsL (V.set j y) = splB (nowsL V) (8 * j) y.now := flat_set Wd.now (fun z hz => (h z hz).n) hx hy
theorem same_lasts {V : List Wd} {j : Nat} {x y : Wd} (hx : V[j]? = some x) (e : y.lasts = x.lasts) : lastsQ (V.set j y) = lastsQ V := flat_same Wd.lasts hx e
theorem same_now {V : List Wd} {j : Nat} {x y : Wd} (hx : V[j]? = some x) (e : y.now = x.now) : nowsL (V.set j y) = nowsL V := flat_same Wd.now hx e
theorem same_map {β : Type} (p : Wd → β) {V : List Wd} {j : Nat} {x y : Wd} (hx : V[j]? = some x) (e : p y = p x) : (V.set j y).map p = V.map p := by
  rw [List.map_set, e, set_sameQ (by rw [List.getElem?_map, hx]; rfl)]
section
variable {W : World} {r : RI} {N M : Nat} {kv av : Value} {pl : List Nat} {off : Bool} {u k : Nat} {al : List Value} {la no : List Nat} {pe ma : List Bool} {V : List Wd}
theorem RL.pcell (h : RL W r N M kv av pl off u k al V) {i : Nat} {x : Wd} (hx : V[i]? = some x) : W.cell? ⟨r.bp, i, none⟩ = some (.bool x.pend) ∧ W.frozen? ⟨r.bp, i, none⟩ = false := ⟨by
    rw [blk_cell h.hp i, List.getElem?_toArray]
    unfold bls
    rw [List.getElem?_map, List.getElem?_map, hx]
    rfl, blk_free h.hp i⟩
theorem RL.mcell (h : RL W r N M kv av pl off u k al V) {i : Nat} {x : Wd} (hx : V[i]? = some x) : W.cell? ⟨r.bm, i, none⟩ = some (.bool x.mark) ∧ W.frozen? ⟨r.bm, i, none⟩ = false := ⟨by
    rw [blk_cell h.hm i, List.getElem?_toArray]
    unfold bls
    rw [List.getElem?_map, List.getElem?_map, hx]
    rfl, blk_free h.hm i⟩
theorem RW.pm (h : RW W r N M kv av pl off u k al la no pe ma) {i : Nat} (hi : i < M) : (∃ b, W.cell? ⟨r.bp, i, none⟩ = some (.bool b)) ∧ (∃ b, W.cell? ⟨r.bm, i, none⟩ = some (.bool b)) ∧ W.frozen? ⟨r.bp, i, none⟩ = false ∧ W.frozen? ⟨r.bm, i, none⟩ = false := by
  have h1 := h.ln
  refine ⟨⟨pe[i]'(by omega), ?_⟩, ⟨ma[i]'(by omega), ?_⟩, blk_free h.hp i, blk_free h.hm i⟩
  · rw [blk_cell h.hp i, List.getElem?_toArray]
    unfold bls
    rw [List.getElem?_map, List.getElem?_eq_getElem (by omega)]
    rfl
  · rw [blk_cell h.hm i, List.getElem?_toArray]
    unfold bls
    rw [List.getElem?_map, List.getElem?_eq_getElem (by omega)]
    rfl
end
/-- behind some words of a loss of power -/
def CrR (w : World) (r : RI) (L N M : Nat) (kv av : Value) (pl : List Nat) (u k : Nat) (al : List Value) (ws : List Wd) (l : List Nat) (iv jv : Value) (W : World) : Prop :=
  ∃ i : Nat, iv = .int .i64 (i : Int) ∧ jv = .int .i64 ((cnt ws i : Nat) : Int) ∧ i ≤ 8 * L ∧ RL W r N M kv av pl false u k al (turnW (crF l ws) 0 i ws) ∧ Turns (R5 r) w W
theorem cr_ok (l : List Nat) (ws : List Wd) (i : Nat) (x : Wd) (h : x.Ok) : (crF l ws i x).Ok := by
  unfold crF Wd.cr
  split
  · split
    · exact ⟨h.n, h.n, h.nb, h.nb⟩
    · exact ⟨h.l, h.l, h.lb, h.lb⟩
  · exact h
theorem cr_mk (l : List Nat) (ws : List Wd) (i : Nat) (x : Wd) (h : x.mark = true → x.pend = true) : (crF l ws i x).mark = true → (crF l ws i x).pend = true := by
  unfold crF Wd.cr
  split
  · split <;> (intro h; cases h)
  · exact h
theorem splB_back {l m : List Nat} {a : Nat} (h : a + 8 ≤ l.length) (hm : m.length = l.length) : splB m a (((splB l a ((m.drop a).take 8)).drop a).take 8) = m := by
  have e : ((splB l a ((m.drop a).take 8)).drop a).take 8 = (m.drop a).take 8 := by
    refine List.ext_getElem? fun j => ?_
    by_cases hj : j < 8
    · rw [List.getElem?_take_of_lt hj, List.getElem?_drop]
      show (splice l a ((m.drop a).take 8))[a + j]? = _
      have h8 : ((m.drop a).take 8).length = 8 := by rw [List.length_take, List.length_drop]; omega
      rw [splice_get _ _ _ (by omega), if_pos (by omega)]
      congr 1
      omega
    · rw [List.getElem?_take_eq_none (by omega), List.getElem?_take_eq_none (by omega)]
  rw [e]
  show splice m a ((m.drop a).take 8) = m
  refine List.ext_getElem? fun p => ?_
  have h8 : ((m.drop a).take 8).length = 8 := by rw [List.length_take, List.length_drop]; omega
  rw [splice_get _ _ _ (by omega), h8]
  split
  · rw [List.getElem?_take_of_lt (by omega), List.getElem?_drop]
    congr 1
    omega
  · rfl
set_option maxHeartbeats 8000000 in
theorem crash_R (r : RI) (L N M n c9 : Nat) (kv av : Value) (pl : List Nat) (s : DSt) (A : Option Addr) (l : List Nat) (w : World) (h : RV w r L N M kv av pl s) (hb : BS w w.heap.size A n c9 l) (hn9 : n ≤ 1000000) (hoff : 0 < n → ∀ ad, A = some ad → ¬ R5 r ad.block) :
    Calls Try.prog 32 #[.pointer (some ⟨r.g, 0, none⟩), .slice A n c9] w (RTo w r L N M kv av (.returned (.tuple #[])) (s.crash L l)) := by
  unfold DSt.crash
  have k4 : w.cell? ⟨r.g, 4, none⟩ = some (.bool s.off) := h.w.cell 4
  cases hof : s.off
  · rw [hof] at k4
    rw [if_neg (by decide)]
    have hw := h.w
    rw [hof] at hw
    have k2 : w.cell? ⟨r.g, 2, none⟩ = some (.slice (some ⟨r.bp, 0, none⟩) M M) := h.w.cell 2
    have HH := Lib.hid h
    have HB := Lib.hid hb
    have HOF := Lib.hid hoff
    have HLL := Lib.hid hb.len
    obtain ⟨ws, hws⟩ : ∃ ws, ws = s.ws := ⟨_, rfl⟩
    have HWS := Lib.hid hws
    have HLM : Hid (ws.length = 8 * L ∧ L ≤ 1024 ∧ N = 64 * L ∧ M = 8 * L) := Lib.hid ⟨by rw [hws]; exact h.len, h.L1, h.sz⟩
    have HOK0 : Hid (OkM ws ∧ MkP ws) := Lib.hid (by rw [hws]; exact ⟨h.ok, h.mkp⟩)
    have HST : Hid (CrR w r L N M kv av pl s.u s.k s.al ws l (.int .i64 0) (.int .i64 0) w) := Lib.hid ⟨0, rfl, rfl, by omega, by unfold RL; rw [turnW_none, hws]; exact hw, Turns.of_below (Below.refl _ _)⟩
    have hMp : (M : Int) = ((8 * L : Nat) : Int) := by rw [h.sz.2]
    have HMP := Lib.hid hMp
    clear h hb hoff hw hws hMp hof
    go_enter Try.func32, Try.ntmps32
    go_wp2_with fail
    clear k4 k2
    go_loopw [15, 4] (fun iv jv wr => CrR w r L N M kv av pl s.u s.k s.al ws l iv jv wr) (fun iv _ _ => (8 * L - (intOf iv).toNat))
    case atStart => exact HST.out
    case round =>
      clear HST
      obtain ⟨i, rfl, rfl, hi, hrl, htt⟩ := hrel
      have HR := Lib.hid hrl
      have HT0 := Lib.hid htt
      by_cases hlt : i < M
      · have hlti : (i : Int) < (M : Int) := by omega
        have hiM := hlt
        obtain ⟨x, hx⟩ : ∃ x, ws[i]? = some x := ⟨_, List.getElem?_eq_getElem (by have := HLM.out; omega)⟩
        have HX := Lib.hid hx
        have HXO := Lib.hid (HOK0.out.1 x (List.mem_of_getElem? hx))
        obtain ⟨V, hV⟩ : ∃ V, V = turnW (crF l ws) 0 i ws := ⟨_, rfl⟩
        have hxV : V[i]? = some x := by rw [hV]; exact turnW_here _ hx
        have HXV := Lib.hid hxV
        have HV := Lib.hid hV
        have HOKV : Hid (OkM (turnW (crF l ws) 0 i ws)) := Lib.hid (turnW_ok _ (cr_ok l ws) 0 i HOK0.out.1)
        have HOKV2 : Hid (OkM V) := Lib.hid (by rw [hV]; exact HOKV.out)
        rw [← hV] at HR hrl
        unfold RL at HR
        have k2 : wr.cell? ⟨r.g, 2, none⟩ = some (.slice (some ⟨r.bp, 0, none⟩) M M) := HR.out.cell 2
        have hpc := (RL.pcell hrl hxV).1
        have hnx := cnt_next hx
        have hcl := cnt_le ws i
        have hL9 := HLM.out
        obtain ⟨cc, hcc⟩ : ∃ cc, cc = cnt ws i := ⟨_, rfl⟩
        obtain ⟨cc2, hcc2⟩ : ∃ cc2, cc2 = cnt ws (i + 1) := ⟨_, rfl⟩
        have HC2 := Lib.hid hcc2
        rw [← hcc]
        rw [← hcc, ← hcc2] at hnx
        rw [← hcc] at hcl
        have hc9 : cc ≤ 8192 := by omega
        have hi9 : i ≤ 8192 := by omega
        have hwi : IntKind.i64.wrap ((i : Int) + 1) = (i : Int) + 1 := IntWalk.i64_in _ ⟨by omega, by omega⟩
        have HIM : Hid (i < 8 * L) := Lib.hid (by omega)
        have HCRF : Hid (crF l ws i x = x.cr l cc) := Lib.hid (by unfold crF; rw [hcc])
        obtain ⟨a, ha⟩ : ∃ a, a = 8 * i := ⟨_, rfl⟩
        obtain ⟨a2, ha2⟩ : ∃ a2, a2 = a + 8 := ⟨_, rfl⟩
        obtain ⟨e9, he9⟩ : ∃ e9, N - a = e9 := ⟨_, rfl⟩
        have HAA : Hid (a = 8 * i ∧ a + 8 ≤ N) := Lib.hid ⟨ha, by omega⟩
        have hw8 : IntKind.i64.wrap (8 * (i : Int)) = (a : Int) := by rw [show (8 : Int) * (i : Int) = (a : Int) by omega]; exact IntWalk.i64_in _ ⟨by omega, by omega⟩
        have hwa : IntKind.i64.wrap ((a : Int) + 8) = (a2 : Int) := by rw [show (a : Int) + 8 = (a2 : Int) by omega]; exact IntWalk.i64_in _ ⟨by omega, by omega⟩
        have hs1 : ∀ W : World, (Instr.slice 28 (.slice (some ⟨r.bl, 0, none⟩) N N) (some (.int .i64 (a : Int))) (some (.int .i64 (a2 : Int))) none).run Try.prog W = .ok (.slice (some ⟨r.bl, a, none⟩) 8 e9) W := fun W => run_part8N r.bl N a a2 e9 ha2 (by omega) he9 W
        have hs2 : ∀ W : World, (Instr.slice 28 (.slice (some ⟨r.bn, 0, none⟩) N N) (some (.int .i64 (a : Int))) (some (.int .i64 (a2 : Int))) none).run Try.prog W = .ok (.slice (some ⟨r.bn, a, none⟩) 8 e9) W := fun W => run_part8N r.bn N a a2 e9 ha2 (by omega) he9 W
        have HBACK : Hid (splB (nowsL V) a ((((splB (lastsQ V) a (((nowsL V).drop a).take 8))).drop a).take 8) = nowsL V) := Lib.hid (splB_back (by have := HR.out.ln; omega) (by have := HR.out.ln; omega))
        have hii := hi
        clear hrl htt hx hV hxV hcl hL9 hcc hcc2 ha ha2 he9
        cases hp : x.pend
        · rw [hp] at hpc hnx
          have hcc3 : cc2 = cc := by rw [hnx]; rfl
          subst hcc3
          have HY : Hid (crF l ws i x = x) := Lib.hid (by rw [HCRF.out]; unfold Wd.cr; rw [hp]; rfl)
          have hmk : x.mark = false := by
            cases hm : x.mark
            · rfl
            · have := HOK0.out.2 x (List.mem_of_getElem? HX.out) hm
              rw [hp] at this; cases this
          have HPM := Lib.hid (And.intro hp hmk)
          have HTT := HT0
          have c2 : wr.cell? ⟨r.g, 2, none⟩ = some (.slice (some ⟨r.bp, 0, none⟩) M M) := HR.out.cell 2
          have c3 : wr.cell? ⟨r.g, 3, none⟩ = some (.slice (some ⟨r.bm, 0, none⟩) M M) := HR.out.cell 3
          obtain ⟨⟨bp1, p1⟩, ⟨bm1, p2⟩, p3, p4⟩ := HR.out.pm hiM
          have n1 := HR.out.lt
          have n2 := HR.out.ne
          have n3 : ¬ r.g = r.bp := by omega
          have n4 : ¬ r.bm = r.bp := fun e => n2.2.2.2.2.2 e.symm
          have HEND : Hid (CrR w r L N M kv av pl s.u s.k s.al ws l (.int .i64 ((i : Int) + 1)) (.int .i64 ((cc2 : Nat) : Int)) ((wr.setCell ⟨r.bp, i, none⟩ (.bool false)).setCell ⟨r.bm, i, none⟩ (.bool false))) := Lib.hid (by
            have e1 := (HR.out.setPend i false).setMark i false
            refine ⟨i + 1, by simp, by rw [HC2.out], by have := HIM.out; omega, ?_, ?_⟩
            · unfold RL
              rw [← turnW_next (crF l ws) (Nat.zero_le i) HX.out]
              have hxx : (turnW (crF l ws) 0 i ws)[i]? = some x := turnW_here _ HX.out
              have hy : crF l ws i x = x := HY.out
              rw [hy, List.map_set, List.map_set]
              have e2 : ((turnW (crF l ws) 0 i ws).map (·.pend)).set i x.pend = (turnW (crF l ws) 0 i ws).map (·.pend) := set_sameQ (by rw [List.getElem?_map, hxx]; rfl)
              have e3 : ((turnW (crF l ws) 0 i ws).map (·.mark)).set i x.mark = (turnW (crF l ws) 0 i ws).map (·.mark) := set_sameQ (by rw [List.getElem?_map, hxx]; rfl)
              have e4 := e2
              have e5 := e3
              rw [HPM.out.1] at e4
              rw [HPM.out.2] at e5
              rw [← HV.out] at e2 e3 e4 e5 ⊢
              rw [e2, e3, HV.out, same_lasts hxx rfl, same_now hxx rfl, ← HV.out]
              rw [e4, e5] at e1
              exact e1
            · exact ((HTT.out.trans (S' := R5 r) (Turns.set (S := R5 r) ⟨r.bp, i, none⟩ _ (.inr (.inr (.inr (.inl rfl))))) (fun _ _ q => q)).trans (S' := R5 r) (Turns.set (S := R5 r) ⟨r.bm, i, none⟩ _ (.inr (.inr (.inr (.inr rfl))))) (fun _ _ q => q)))
          clear n1 n2 hp hnx hmk hw8 hwa hs1 hs2
          go_wp2_with fail
          go_roundw
          case rel => exact HEND.out
          case measure => have := HIM.out; simp [intOf]; omega
        · rw [hp] at hpc hnx
          have hcc3 : cc2 = cc + 1 := by rw [hnx]; rfl
          have hwc : IntKind.i64.wrap ((cc : Int) + 1) = (cc2 : Int) := by rw [show (cc : Int) + 1 = (cc2 : Int) by omega]; exact IntWalk.i64_in _ ⟨by omega, by omega⟩
          clear hnx
          rcases Nat.eq_zero_or_pos n with hn0 | hn0
          · have HY : Hid (crF l ws i x = x.lose) := Lib.hid (by
              rw [HCRF.out]; unfold Wd.cr; rw [hp, if_pos rfl]
              have : pickB l cc = false := by unfold pickB; rw [HLL.out, hn0]; rfl
              rw [this]; rfl)
            have hnle : ¬ (0 : Int) < (n : Int) := by omega
            clear hp hcc3
            go_upto_region 8 with (fail)
            have hl8 : (((lastsQ V).drop a).take 8).length = 8 := by rw [List.length_take, List.length_drop]; have := HR.out.ln; have := HAA.out; omega
            have HCL : Hid ((bvals (((lastsQ V).drop a).take 8)).length = Nat.min 8 8) := Lib.hid (by rw [bvals_len, hl8]; rfl)
            have HPO : Hid (0 < (bvals (((lastsQ V).drop a).take 8)).length → (some ⟨r.bn, a, none⟩ : Option Addr) = some ⟨r.bn, a, none⟩ ∧ ∃ ad, (some ⟨r.bl, a, none⟩ : Option Addr) = some ad ∧ ∀ j v, (bvals (((lastsQ V).drop a).take 8))[j]? = some v → wr.cell? (ad.add j) = some v) := Lib.hid (fun _ => ⟨rfl, _, rfl, row_reads HR.out.hl (by have := HR.out.ln; have := HAA.out; omega)⟩)
            have HFT : Hid (a + (bvals (((lastsQ V).drop a).take 8)).length ≤ (bvals (nowsL V)).length) := Lib.hid (by rw [bvals_len, bvals_len, hl8]; have := HR.out.ln; have := HAA.out; omega)
            have k0 : wr.cell? ⟨r.g, 0, none⟩ = some (.slice (some ⟨r.bl, 0, none⟩) N N) := HR.out.cell 0
            have k1 : wr.cell? ⟨r.g, 1, none⟩ = some (.slice (some ⟨r.bn, 0, none⟩) N N) := HR.out.cell 1
            refine wp_region_F (S := fun w' => w' = wr.drew) [20] (by kernel_rfl) (rfl) (fun hHeld => ?_)
            refine wpAnyG_take (i := 0) (oi := _) (v := ?_) rfl (by kernel_rfl) (by kernel_rfl) (by kernel_rfl) (by kernel_rfl) (by kernel_rfl) (fun _ _ _ h => h) (Or.inl ⟨by rfl, ?_⟩) (by assumption) ?_
            rotate_left 1
            · intro w hSw
              (try dsimp only at hSw)
              (first | (go_simp; done) | (go_simp; with_reducible rfl))
            (try simp only [Act.put, List.getElem_toArray, List.getElem_cons_succ, List.getElem_cons_zero, List.setIfInBounds_toArray, List.set_cons_zero, List.set_cons_succ])
            refine wpAnyG_take (i := 1) (oi := _) (v := ?_) rfl (by kernel_rfl) (by kernel_rfl) (by kernel_rfl) (by kernel_rfl) (by kernel_rfl) (fun _ _ _ h => h) (Or.inl ⟨by rfl, ?_⟩) (by assumption) ?_
            rotate_left 1
            · intro w hSw
              (try dsimp only at hSw)
              (first | (go_simp; done) | (go_simp; with_reducible rfl))
            (try simp only [Act.put, List.getElem_toArray, List.getElem_cons_succ, List.getElem_cons_zero, List.setIfInBounds_toArray, List.set_cons_zero, List.set_cons_succ])
            refine wpAnyG_take (i := 2) (oi := _) (v := ?_) rfl (by kernel_rfl) (by kernel_rfl) (by kernel_rfl) (by kernel_rfl) (by kernel_rfl) (fun _ _ _ h => h) (Or.inl ⟨by rfl, ?_⟩) (by assumption) ?_
            rotate_left 1
            · intro w hSw
              (try dsimp only at hSw)
              (first | (go_simp; done) | (go_simp; with_reducible rfl))
            (try simp only [Act.put, List.getElem_toArray, List.getElem_cons_succ, List.getElem_cons_zero, List.setIfInBounds_toArray, List.set_cons_zero, List.set_cons_succ])
            refine wpAnyG_take (i := 3) (oi := _) (v := ?_) rfl (by kernel_rfl) (by kernel_rfl) (by kernel_rfl) (by kernel_rfl) (by kernel_rfl) (fun _ _ _ h => h) (Or.inl ⟨by rfl, ?_⟩) (by assumption) ?_
            rotate_left 1
            · intro w hSw
              (try dsimp only at hSw)
              (first | (go_simp; done) | (go_simp; with_reducible rfl))
            (try simp only [Act.put, List.getElem_toArray, List.getElem_cons_succ, List.getElem_cons_zero, List.setIfInBounds_toArray, List.set_cons_zero, List.set_cons_succ])
            refine wpAnyG_take (i := 4) (oi := _) (v := ?_) rfl (by kernel_rfl) (by kernel_rfl) (by kernel_rfl) (by kernel_rfl) (by kernel_rfl) (fun _ _ _ h => h) (Or.inl ⟨by rfl, ?_⟩) (by assumption) ?_
            rotate_left 1
            · intro w hSw
              (try dsimp only at hSw)
              (first | (go_simp; done) | (go_simp; with_reducible rfl))
            (try simp only [Act.put, List.getElem_toArray, List.getElem_cons_succ, List.getElem_cons_zero, List.setIfInBounds_toArray, List.set_cons_zero, List.set_cons_succ])
            refine wpAnyG_take (i := 5) (oi := _) (v := ?_) rfl (by kernel_rfl) (by kernel_rfl) (by kernel_rfl) (by kernel_rfl) (by kernel_rfl) (fun _ _ _ h => h) (Or.inl ⟨by rfl, ?_⟩) (by assumption) ?_
            rotate_left 1
            · intro w hSw
              (try dsimp only at hSw)
              (first | (go_simp; done) | (go_simp; with_reducible rfl))
            (try simp only [Act.put, List.getElem_toArray, List.getElem_cons_succ, List.getElem_cons_zero, List.setIfInBounds_toArray, List.set_cons_zero, List.set_cons_succ])
            refine wpAnyG_take (i := 6) (oi := _) (v := ?_) rfl (by kernel_rfl) (by kernel_rfl) (by kernel_rfl) (by kernel_rfl) (by kernel_rfl) (fun _ _ _ h => h) (Or.inl ⟨by rfl, ?_⟩) (by assumption) ?_
            rotate_left 1
            · intro w hSw
              (try dsimp only at hSw)
              (first | (go_simp; done) | (go_simp; with_reducible rfl))
            (try simp only [Act.put, List.getElem_toArray, List.getElem_cons_succ, List.getElem_cons_zero, List.setIfInBounds_toArray, List.set_cons_zero, List.set_cons_succ])
            refine wpAnyG_take (i := 7) (oi := _) (v := ?_) rfl (by kernel_rfl) (by kernel_rfl) (by kernel_rfl) (by kernel_rfl) (by kernel_rfl) (fun _ _ _ h => h) (Or.inl ⟨by rfl, ?_⟩) (by assumption) ?_
            rotate_left 1
            · intro w hSw
              (try dsimp only at hSw)
              (first | (go_simp; done) | (go_simp; with_reducible rfl))
            (try simp only [Act.put, List.getElem_toArray, List.getElem_cons_succ, List.getElem_cons_zero, List.setIfInBounds_toArray, List.set_cons_zero, List.set_cons_succ])
            refine wpAnyG_take (i := 8) (oi := _) (v := ?_) rfl (by kernel_rfl) (by kernel_rfl) (by kernel_rfl) (by kernel_rfl) (by kernel_rfl) (fun _ _ _ h => h) (Or.inl ⟨by rfl, ?_⟩) (by assumption) ?_
            rotate_left 1
            · intro w hSw
              (try dsimp only at hSw)
              (first | (go_simp; done) | (go_simp; with_reducible rfl))
            (try simp only [Act.put, List.getElem_toArray, List.getElem_cons_succ, List.getElem_cons_zero, List.setIfInBounds_toArray, List.set_cons_zero, List.set_cons_succ])
            refine wpAnyG_take (i := 9) (oi := _) (v := ?_) rfl (by kernel_rfl) (by kernel_rfl) (by kernel_rfl) (by kernel_rfl) (by kernel_rfl) (fun _ _ _ h => h) (Or.inl ⟨by rfl, ?_⟩) (by assumption) ?_
            rotate_left 1
            · intro w hSw
              (try dsimp only at hSw)
              (first | (go_simp; done) | (go_simp; with_reducible rfl))
            (try simp only [Act.put, List.getElem_toArray, List.getElem_cons_succ, List.getElem_cons_zero, List.setIfInBounds_toArray, List.set_cons_zero, List.set_cons_succ])
            refine wpAnyG_take (i := 10) (oi := _) (v := ?_) rfl (by kernel_rfl) (by kernel_rfl) (by kernel_rfl) (by kernel_rfl) (by kernel_rfl) (fun _ _ _ h => h) (Or.inl ⟨by rfl, ?_⟩) (by assumption) ?_
            rotate_left 1
            · intro w hSw
              (try dsimp only at hSw)
              (first | (go_simp; done) | (go_simp; with_reducible rfl))
            (try simp only [Act.put, List.getElem_toArray, List.getElem_cons_succ, List.getElem_cons_zero, List.setIfInBounds_toArray, List.set_cons_zero, List.set_cons_succ])
            refine wpAnyG_take (i := 11) (oi := _) (v := ?_) rfl (by kernel_rfl) (by kernel_rfl) (by kernel_rfl) (by kernel_rfl) (by kernel_rfl) (fun _ _ _ h => h) (Or.inl ⟨by rfl, ?_⟩) (by assumption) ?_
            rotate_left 1
            · intro w hSw
              (try dsimp only at hSw)
              (first | (go_simp; done) | (go_simp; with_reducible rfl))
            (try simp only [Act.put, List.getElem_toArray, List.getElem_cons_succ, List.getElem_cons_zero, List.setIfInBounds_toArray, List.set_cons_zero, List.set_cons_succ])
            refine wpAnyG_take (i := 12) (oi := _) (v := ?_) rfl (by kernel_rfl) (by kernel_rfl) (by kernel_rfl) (by kernel_rfl) (by kernel_rfl) (fun _ _ _ h => h) (Or.inl ⟨by rfl, ?_⟩) (by assumption) ?_
            rotate_left 1
            · intro w hSw
              (try dsimp only at hSw)
              (first | (go_simp; done) | (go_simp; with_reducible rfl))
            (try simp only [Act.put, List.getElem_toArray, List.getElem_cons_succ, List.getElem_cons_zero, List.setIfInBounds_toArray, List.set_cons_zero, List.set_cons_succ])
            refine wpAnyG_take (i := 13) (oi := _) (v := ?_) rfl (by kernel_rfl) (by kernel_rfl) (by kernel_rfl) (by kernel_rfl) (by kernel_rfl) (fun _ _ _ h => h) (Or.inl ⟨by rfl, ?_⟩) (by assumption) ?_
            rotate_left 1
            · intro w hSw
              (try dsimp only at hSw)
              (first | (go_simp; done) | (go_simp; with_reducible rfl))
            (try simp only [Act.put, List.getElem_toArray, List.getElem_cons_succ, List.getElem_cons_zero, List.setIfInBounds_toArray, List.set_cons_zero, List.set_cons_succ])
            refine wpAnyG_take (i := 14) (oi := _) (v := ?_) rfl (by kernel_rfl) (by kernel_rfl) (by kernel_rfl) (by kernel_rfl) (by kernel_rfl) (fun _ _ _ h => h) (Or.inl ⟨by rfl, ?_⟩) (by assumption) ?_
            rotate_left 1
            · intro w hSw
              (try dsimp only at hSw)
              (first | (go_simp; done) | (go_simp; with_reducible rfl))
            (try simp only [Act.put, List.getElem_toArray, List.getElem_cons_succ, List.getElem_cons_zero, List.setIfInBounds_toArray, List.set_cons_zero, List.set_cons_succ])
            refine wpAnyG_take (i := 15) (oi := _) (v := ?_) rfl (by kernel_rfl) (by kernel_rfl) (by kernel_rfl) (by kernel_rfl) (by kernel_rfl) (fun _ _ _ h => h) (Or.inl ⟨by rfl, ?_⟩) (by assumption) ?_
            rotate_left 1
            · intro w hSw
              (try dsimp only at hSw)
              (first | (go_simp; done) | (go_simp; with_reducible rfl))
            (try simp only [Act.put, List.getElem_toArray, List.getElem_cons_succ, List.getElem_cons_zero, List.setIfInBounds_toArray, List.set_cons_zero, List.set_cons_succ])
            refine wpAnyG_take (i := 16) (oi := _) (v := ?_) rfl (by kernel_rfl) (by kernel_rfl) (by kernel_rfl) (by kernel_rfl) (by kernel_rfl) (fun _ _ _ h => h) (Or.inl ⟨by rfl, ?_⟩) (by assumption) ?_
            rotate_left 1
            · intro w hSw
              (try dsimp only at hSw)
              (first | (go_simp; done) | (go_simp; with_reducible rfl))
            (try simp only [Act.put, List.getElem_toArray, List.getElem_cons_succ, List.getElem_cons_zero, List.setIfInBounds_toArray, List.set_cons_zero, List.set_cons_succ])
            refine wpAnyG_take (i := 17) (oi := _) (v := ?_) rfl (by kernel_rfl) (by kernel_rfl) (by kernel_rfl) (by kernel_rfl) (by kernel_rfl) (fun _ _ _ h => h) (Or.inl ⟨by rfl, ?_⟩) (by assumption) ?_
            rotate_left 1
            · intro w hSw
              (try dsimp only at hSw)
              (first | (go_simp; done) | (go_simp; with_reducible rfl))
            (try simp only [Act.put, List.getElem_toArray, List.getElem_cons_succ, List.getElem_cons_zero, List.setIfInBounds_toArray, List.set_cons_zero, List.set_cons_succ])
            refine wpAnyG_take (i := 18) (oi := _) (v := ?_) rfl (by kernel_rfl) (by kernel_rfl) (by kernel_rfl) (by kernel_rfl) (by kernel_rfl) (fun _ _ _ h => h) (Or.inl ⟨by rfl, ?_⟩) (by assumption) ?_
            rotate_left 1
            · intro w hSw
              (try dsimp only at hSw)
              (first | (go_simp; done) | (go_simp; with_reducible rfl))
            (try simp only [Act.put, List.getElem_toArray, List.getElem_cons_succ, List.getElem_cons_zero, List.setIfInBounds_toArray, List.set_cons_zero, List.set_cons_succ])
            refine wpAnyG_take (i := 19) (oi := _) (v := ?_) rfl (by kernel_rfl) (by kernel_rfl) (by kernel_rfl) (by kernel_rfl) (by kernel_rfl) (fun _ _ _ h => h) (Or.inl ⟨by rfl, ?_⟩) (by assumption) ?_
            rotate_left 1
            · intro w hSw
              (try dsimp only at hSw)
              (first | (go_simp; done) | (go_simp; with_reducible rfl))
            (try simp only [Act.put, List.getElem_toArray, List.getElem_cons_succ, List.getElem_cons_zero, List.setIfInBounds_toArray, List.set_cons_zero, List.set_cons_succ])
            refine wpAnyF_ready (rs := [20]) (by kernel_rfl) (by simp) ?_
            refine AllReadyF.last (o := _) rfl (by rfl) (fun K hK => ?_) AllReadyF.nil
            refine step_copy_only rfl (.tmp 69) (.tmp 79) 28 28 rfl 5 Try.underlying28 size_u8 (some ⟨r.bn, a, none⟩) (some ⟨r.bl, a, none⟩) 8 e9 8 e9 rfl rfl r.bn a (bvals (nowsL V)) 5 HR.out.hn (bvals (((lastsQ V).drop a).take 8)) HCL.out HPO.out HFT.out (bvals_one _) ?_
            intro w3 hq3 hg3
            rw [bvals_splB] at hq3
            have HG3 := Lib.hid (grown_undrew hg3)
            have hw3 := HR.out.now' HG3.out hq3.out (by rw [splB_len (by rw [hl8]; have := HR.out.ln; have := HAA.out; omega)]; exact HR.out.ln.2.1) (splB_ok (by rw [hl8]; have := HR.out.ln; have := HAA.out; omega) HR.out.by_.2.1 (fun v hv => HR.out.by_.1 v (List.mem_of_mem_drop (List.mem_of_mem_take hv))))
            have HWw3 := Lib.hid hw3
            have HTw3 : Hid (Turns (R5 r) wr w3) := Lib.hid (Turns.of_grown HG3.out (fun j e => by injection e with e; exact .inr (.inr (.inl e.symm))))
            clear hq3 hg3 hw3 hl8 k0 k1
            rw [show goInt (bvals (((lastsQ V).drop a).take 8)).length = Value.int .i64 8 from by rw [HCL.out]; rfl]
            refine hK.out _ _ ?_
            clear hK K
            (try simp only [Act.put, List.getElem_toArray, List.getElem_cons_succ, List.getElem_cons_zero, List.setIfInBounds_toArray, List.set_cons_zero, List.set_cons_succ])
            refine wpAnyF_done (by kernel_rfl) ?_ _
            clear HCL HPO HFT
            have HTT : Hid (Turns (R5 r) w w3) := Lib.hid (HT0.out.trans (S' := R5 r) HTw3.out (fun _ _ q => q))
            have c2 : w3.cell? ⟨r.g, 2, none⟩ = some (.slice (some ⟨r.bp, 0, none⟩) M M) := HWw3.out.cell 2
            have c3 : w3.cell? ⟨r.g, 3, none⟩ = some (.slice (some ⟨r.bm, 0, none⟩) M M) := HWw3.out.cell 3
            obtain ⟨⟨bp1, p1⟩, ⟨bm1, p2⟩, p3, p4⟩ := HWw3.out.pm hiM
            have n1 := HWw3.out.lt
            have n2 := HWw3.out.ne
            have n3 : ¬ r.g = r.bp := by omega
            have n4 : ¬ r.bm = r.bp := fun e => n2.2.2.2.2.2 e.symm
            have HEND : Hid (CrR w r L N M kv av pl s.u s.k s.al ws l (.int .i64 ((i : Int) + 1)) (.int .i64 ((cc2 : Nat) : Int)) ((w3.setCell ⟨r.bp, i, none⟩ (.bool false)).setCell ⟨r.bm, i, none⟩ (.bool false))) := Lib.hid (by
              have e1 := (HWw3.out.setPend i false).setMark i false
              refine ⟨i + 1, by simp, by rw [HC2.out], by have := HIM.out; omega, ?_, ?_⟩
              · unfold RL
                rw [← turnW_next (crF l ws) (Nat.zero_le i) HX.out]
                have hxx : (turnW (crF l ws) 0 i ws)[i]? = some x := turnW_here _ HX.out
                have hy : crF l ws i x = x.lose := HY.out
                rw [hy, List.map_set, List.map_set]
                rw [same_lasts hxx (show x.lose.lasts = x.lasts from rfl), set_now HOKV.out hxx (show x.lose.now.length = 8 from HXO.out.l), ← HV.out, show x.lose.now = x.lasts from rfl, ← take8_lasts HOKV2.out HXV.out, ← HAA.out.1]
                exact e1
              · exact ((HTT.out.trans (S' := R5 r) (Turns.set (S := R5 r) ⟨r.bp, i, none⟩ _ (.inr (.inr (.inr (.inl rfl))))) (fun _ _ q => q)).trans (S' := R5 r) (Turns.set (S := R5 r) ⟨r.bm, i, none⟩ _ (.inr (.inr (.inr (.inr rfl))))) (fun _ _ q => q)))
            clear n1 n2
            go_wp2_with fail
            go_roundw
            case rel => exact HEND.out
            case measure => have := HIM.out; simp [intOf]; omega
          · obtain ⟨rr, hrr⟩ : ∃ rr, rr = cc % n := ⟨_, rfl⟩
            have hrl : rr < n := by rw [hrr]; exact Nat.mod_lt _ hn0
            have hnz : (n : Int) ≠ 0 := by omega
            have hnlt : (0 : Int) < (n : Int) := by omega
            have hmod : (cc : Int).tmod (n : Int) = (rr : Int) := by rw [hrr]; exact Int.ofNat_tmod cc n
            have hrj : rr ≤ cc := by rw [hrr]; exact Nat.mod_le _ _
            obtain ⟨xb, xo, hA, hxb, hxc⟩ := HB.out.at_ hn0
            have hoff2 := HOF.out hn0 _ hA
            subst hA
            obtain ⟨v, hv⟩ : ∃ v, v = l.getD rr 0 := ⟨_, rfl⟩
            have hpc2 : wr.cell? ⟨xb, xo + rr, none⟩ = some (.int .u8 (v : Int)) := by rw [hv]; exact (World.cell?_of_block (HT0.out.block xb hxb hoff2)).trans (hxc rr hrl)
            have hvb : v < 256 := by rw [hv]; exact HB.out.byte rr
            have HPK : Hid (pickB l cc = (v % 2 == 1)) := Lib.hid (by unfold pickB; rw [HLL.out, hv, hrr]; simp [hn0])
            clear hoff2 hxb hxc hv
            rcases (by omega : v % 2 = 1 ∨ v % 2 = 0) with hv2 | hv2
            · have HY : Hid (crF l ws i x = x.keep) := Lib.hid (by rw [HCRF.out]; unfold Wd.cr; rw [hp, if_pos rfl, HPK.out, hv2]; rfl)
              have hvm : (v : Int).tmod 2 = 1 := by have := Int.ofNat_tmod v 2; rw [hv2] at this; exact this.symm
              clear hp hcc3 hrr hv2
              go_upto_region 7 with (fail)
              have hl8 : (((nowsL V).drop a).take 8).length = 8 := by rw [List.length_take, List.length_drop]; have := HR.out.ln; have := HAA.out; omega
              have HCL : Hid ((bvals (((nowsL V).drop a).take 8)).length = Nat.min 8 8) := Lib.hid (by rw [bvals_len, hl8]; rfl)
              have HPO : Hid (0 < (bvals (((nowsL V).drop a).take 8)).length → (some ⟨r.bl, a, none⟩ : Option Addr) = some ⟨r.bl, a, none⟩ ∧ ∃ ad, (some ⟨r.bn, a, none⟩ : Option Addr) = some ad ∧ ∀ j v, (bvals (((nowsL V).drop a).take 8))[j]? = some v → wr.cell? (ad.add j) = some v) := Lib.hid (fun _ => ⟨rfl, _, rfl, row_reads HR.out.hn (by have := HR.out.ln; have := HAA.out; omega)⟩)
              have HFT : Hid (a + (bvals (((nowsL V).drop a).take 8)).length ≤ (bvals (lastsQ V)).length) := Lib.hid (by rw [bvals_len, bvals_len, hl8]; have := HR.out.ln; have := HAA.out; omega)
              have k0 : wr.cell? ⟨r.g, 0, none⟩ = some (.slice (some ⟨r.bl, 0, none⟩) N N) := HR.out.cell 0
              have k1 : wr.cell? ⟨r.g, 1, none⟩ = some (.slice (some ⟨r.bn, 0, none⟩) N N) := HR.out.cell 1
              refine wp_region_F (S := fun w' => w' = wr.drew) [20] (by kernel_rfl) (rfl) (fun hHeld => ?_)
              refine wpAnyG_take (i := 0) (oi := _) (v := ?_) rfl (by kernel_rfl) (by kernel_rfl) (by kernel_rfl) (by kernel_rfl) (by kernel_rfl) (fun _ _ _ h => h) (Or.inl ⟨by rfl, ?_⟩) (by assumption) ?_
              rotate_left 1
              · intro w hSw
                (try dsimp only at hSw)
                (first | (go_simp; done) | (go_simp; with_reducible rfl))
              (try simp only [Act.put, List.getElem_toArray, List.getElem_cons_succ, List.getElem_cons_zero, List.setIfInBounds_toArray, List.set_cons_zero, List.set_cons_succ])
              refine wpAnyG_take (i := 1) (oi := _) (v := ?_) rfl (by kernel_rfl) (by kernel_rfl) (by kernel_rfl) (by kernel_rfl) (by kernel_rfl) (fun _ _ _ h => h) (Or.inl ⟨by rfl, ?_⟩) (by assumption) ?_
              rotate_left 1
              · intro w hSw
                (try dsimp only at hSw)
                (first | (go_simp; done) | (go_simp; with_reducible rfl))
              (try simp only [Act.put, List.getElem_toArray, List.getElem_cons_succ, List.getElem_cons_zero, List.setIfInBounds_toArray, List.set_cons_zero, List.set_cons_succ])
              refine wpAnyG_take (i := 2) (oi := _) (v := ?_) rfl (by kernel_rfl) (by kernel_rfl) (by kernel_rfl) (by kernel_rfl) (by kernel_rfl) (fun _ _ _ h => h) (Or.inl ⟨by rfl, ?_⟩) (by assumption) ?_
              rotate_left 1
              · intro w hSw
                (try dsimp only at hSw)
                (first | (go_simp; done) | (go_simp; with_reducible rfl))
              (try simp only [Act.put, List.getElem_toArray, List.getElem_cons_succ, List.getElem_cons_zero, List.setIfInBounds_toArray, List.set_cons_zero, List.set_cons_succ])
              refine wpAnyG_take (i := 3) (oi := _) (v := ?_) rfl (by kernel_rfl) (by kernel_rfl) (by kernel_rfl) (by kernel_rfl) (by kernel_rfl) (fun _ _ _ h => h) (Or.inl ⟨by rfl, ?_⟩) (by assumption) ?_
              rotate_left 1
              · intro w hSw
                (try dsimp only at hSw)
                (first | (go_simp; done) | (go_simp; with_reducible rfl))
              (try simp only [Act.put, List.getElem_toArray, List.getElem_cons_succ, List.getElem_cons_zero, List.setIfInBounds_toArray, List.set_cons_zero, List.set_cons_succ])
              refine wpAnyG_take (i := 4) (oi := _) (v := ?_) rfl (by kernel_rfl) (by kernel_rfl) (by kernel_rfl) (by kernel_rfl) (by kernel_rfl) (fun _ _ _ h => h) (Or.inl ⟨by rfl, ?_⟩) (by assumption) ?_
              rotate_left 1
              · intro w hSw
                (try dsimp only at hSw)
                (first | (go_simp; done) | (go_simp; with_reducible rfl))
              (try simp only [Act.put, List.getElem_toArray, List.getElem_cons_succ, List.getElem_cons_zero, List.setIfInBounds_toArray, List.set_cons_zero, List.set_cons_succ])
              refine wpAnyG_take (i := 5) (oi := _) (v := ?_) rfl (by kernel_rfl) (by kernel_rfl) (by kernel_rfl) (by kernel_rfl) (by kernel_rfl) (fun _ _ _ h => h) (Or.inl ⟨by rfl, ?_⟩) (by assumption) ?_
              rotate_left 1
              · intro w hSw
                (try dsimp only at hSw)
                (first | (go_simp; done) | (go_simp; with_reducible rfl))
              (try simp only [Act.put, List.getElem_toArray, List.getElem_cons_succ, List.getElem_cons_zero, List.setIfInBounds_toArray, List.set_cons_zero, List.set_cons_succ])
              refine wpAnyG_take (i := 6) (oi := _) (v := ?_) rfl (by kernel_rfl) (by kernel_rfl) (by kernel_rfl) (by kernel_rfl) (by kernel_rfl) (fun _ _ _ h => h) (Or.inl ⟨by rfl, ?_⟩) (by assumption) ?_
              rotate_left 1
              · intro w hSw
                (try dsimp only at hSw)
                (first | (go_simp; done) | (go_simp; with_reducible rfl))
              (try simp only [Act.put, List.getElem_toArray, List.getElem_cons_succ, List.getElem_cons_zero, List.setIfInBounds_toArray, List.set_cons_zero, List.set_cons_succ])
              refine wpAnyG_take (i := 7) (oi := _) (v := ?_) rfl (by kernel_rfl) (by kernel_rfl) (by kernel_rfl) (by kernel_rfl) (by kernel_rfl) (fun _ _ _ h => h) (Or.inl ⟨by rfl, ?_⟩) (by assumption) ?_
              rotate_left 1
              · intro w hSw
                (try dsimp only at hSw)
                (first | (go_simp; done) | (go_simp; with_reducible rfl))
              (try simp only [Act.put, List.getElem_toArray, List.getElem_cons_succ, List.getElem_cons_zero, List.setIfInBounds_toArray, List.set_cons_zero, List.set_cons_succ])
              refine wpAnyG_take (i := 8) (oi := _) (v := ?_) rfl (by kernel_rfl) (by kernel_rfl) (by kernel_rfl) (by kernel_rfl) (by kernel_rfl) (fun _ _ _ h => h) (Or.inl ⟨by rfl, ?_⟩) (by assumption) ?_
              rotate_left 1
              · intro w hSw
                (try dsimp only at hSw)
                (first | (go_simp; done) | (go_simp; with_reducible rfl))
              (try simp only [Act.put, List.getElem_toArray, List.getElem_cons_succ, List.getElem_cons_zero, List.setIfInBounds_toArray, List.set_cons_zero, List.set_cons_succ])
              refine wpAnyG_take (i := 9) (oi := _) (v := ?_) rfl (by kernel_rfl) (by kernel_rfl) (by kernel_rfl) (by kernel_rfl) (by kernel_rfl) (fun _ _ _ h => h) (Or.inl ⟨by rfl, ?_⟩) (by assumption) ?_
              rotate_left 1
              · intro w hSw
                (try dsimp only at hSw)
                (first | (go_simp; done) | (go_simp; with_reducible rfl))
              (try simp only [Act.put, List.getElem_toArray, List.getElem_cons_succ, List.getElem_cons_zero, List.setIfInBounds_toArray, List.set_cons_zero, List.set_cons_succ])
              refine wpAnyG_take (i := 10) (oi := _) (v := ?_) rfl (by kernel_rfl) (by kernel_rfl) (by kernel_rfl) (by kernel_rfl) (by kernel_rfl) (fun _ _ _ h => h) (Or.inl ⟨by rfl, ?_⟩) (by assumption) ?_
              rotate_left 1
              · intro w hSw
                (try dsimp only at hSw)
                (first | (go_simp; done) | (go_simp; with_reducible rfl))
              (try simp only [Act.put, List.getElem_toArray, List.getElem_cons_succ, List.getElem_cons_zero, List.setIfInBounds_toArray, List.set_cons_zero, List.set_cons_succ])
              refine wpAnyG_take (i := 11) (oi := _) (v := ?_) rfl (by kernel_rfl) (by kernel_rfl) (by kernel_rfl) (by kernel_rfl) (by kernel_rfl) (fun _ _ _ h => h) (Or.inl ⟨by rfl, ?_⟩) (by assumption) ?_
              rotate_left 1
              · intro w hSw
                (try dsimp only at hSw)
                (first | (go_simp; done) | (go_simp; with_reducible rfl))
              (try simp only [Act.put, List.getElem_toArray, List.getElem_cons_succ, List.getElem_cons_zero, List.setIfInBounds_toArray, List.set_cons_zero, List.set_cons_succ])
              refine wpAnyG_take (i := 12) (oi := _) (v := ?_) rfl (by kernel_rfl) (by kernel_rfl) (by kernel_rfl) (by kernel_rfl) (by kernel_rfl) (fun _ _ _ h => h) (Or.inl ⟨by rfl, ?_⟩) (by assumption) ?_
              rotate_left 1
              · intro w hSw
                (try dsimp only at hSw)
                (first | (go_simp; done) | (go_simp; with_reducible rfl))
              (try simp only [Act.put, List.getElem_toArray, List.getElem_cons_succ, List.getElem_cons_zero, List.setIfInBounds_toArray, List.set_cons_zero, List.set_cons_succ])
              refine wpAnyG_take (i := 13) (oi := _) (v := ?_) rfl (by kernel_rfl) (by kernel_rfl) (by kernel_rfl) (by kernel_rfl) (by kernel_rfl) (fun _ _ _ h => h) (Or.inl ⟨by rfl, ?_⟩) (by assumption) ?_
              rotate_left 1
              · intro w hSw
                (try dsimp only at hSw)
                (first | (go_simp; done) | (go_simp; with_reducible rfl))
              (try simp only [Act.put, List.getElem_toArray, List.getElem_cons_succ, List.getElem_cons_zero, List.setIfInBounds_toArray, List.set_cons_zero, List.set_cons_succ])
              refine wpAnyG_take (i := 14) (oi := _) (v := ?_) rfl (by kernel_rfl) (by kernel_rfl) (by kernel_rfl) (by kernel_rfl) (by kernel_rfl) (fun _ _ _ h => h) (Or.inl ⟨by rfl, ?_⟩) (by assumption) ?_
              rotate_left 1
              · intro w hSw
                (try dsimp only at hSw)
                (first | (go_simp; done) | (go_simp; with_reducible rfl))
              (try simp only [Act.put, List.getElem_toArray, List.getElem_cons_succ, List.getElem_cons_zero, List.setIfInBounds_toArray, List.set_cons_zero, List.set_cons_succ])
              refine wpAnyG_take (i := 15) (oi := _) (v := ?_) rfl (by kernel_rfl) (by kernel_rfl) (by kernel_rfl) (by kernel_rfl) (by kernel_rfl) (fun _ _ _ h => h) (Or.inl ⟨by rfl, ?_⟩) (by assumption) ?_
              rotate_left 1
              · intro w hSw
                (try dsimp only at hSw)
                (first | (go_simp; done) | (go_simp; with_reducible rfl))
              (try simp only [Act.put, List.getElem_toArray, List.getElem_cons_succ, List.getElem_cons_zero, List.setIfInBounds_toArray, List.set_cons_zero, List.set_cons_succ])
              refine wpAnyG_take (i := 16) (oi := _) (v := ?_) rfl (by kernel_rfl) (by kernel_rfl) (by kernel_rfl) (by kernel_rfl) (by kernel_rfl) (fun _ _ _ h => h) (Or.inl ⟨by rfl, ?_⟩) (by assumption) ?_
              rotate_left 1
              · intro w hSw
                (try dsimp only at hSw)
                (first | (go_simp; done) | (go_simp; with_reducible rfl))
              (try simp only [Act.put, List.getElem_toArray, List.getElem_cons_succ, List.getElem_cons_zero, List.setIfInBounds_toArray, List.set_cons_zero, List.set_cons_succ])
              refine wpAnyG_take (i := 17) (oi := _) (v := ?_) rfl (by kernel_rfl) (by kernel_rfl) (by kernel_rfl) (by kernel_rfl) (by kernel_rfl) (fun _ _ _ h => h) (Or.inl ⟨by rfl, ?_⟩) (by assumption) ?_
              rotate_left 1
              · intro w hSw
                (try dsimp only at hSw)
                (first | (go_simp; done) | (go_simp; with_reducible rfl))
              (try simp only [Act.put, List.getElem_toArray, List.getElem_cons_succ, List.getElem_cons_zero, List.setIfInBounds_toArray, List.set_cons_zero, List.set_cons_succ])
              refine wpAnyG_take (i := 18) (oi := _) (v := ?_) rfl (by kernel_rfl) (by kernel_rfl) (by kernel_rfl) (by kernel_rfl) (by kernel_rfl) (fun _ _ _ h => h) (Or.inl ⟨by rfl, ?_⟩) (by assumption) ?_
              rotate_left 1
              · intro w hSw
                (try dsimp only at hSw)
                (first | (go_simp; done) | (go_simp; with_reducible rfl))
              (try simp only [Act.put, List.getElem_toArray, List.getElem_cons_succ, List.getElem_cons_zero, List.setIfInBounds_toArray, List.set_cons_zero, List.set_cons_succ])
              refine wpAnyG_take (i := 19) (oi := _) (v := ?_) rfl (by kernel_rfl) (by kernel_rfl) (by kernel_rfl) (by kernel_rfl) (by kernel_rfl) (fun _ _ _ h => h) (Or.inl ⟨by rfl, ?_⟩) (by assumption) ?_
              rotate_left 1
              · intro w hSw
                (try dsimp only at hSw)
                (first | (go_simp; done) | (go_simp; with_reducible rfl))
              (try simp only [Act.put, List.getElem_toArray, List.getElem_cons_succ, List.getElem_cons_zero, List.setIfInBounds_toArray, List.set_cons_zero, List.set_cons_succ])
              refine wpAnyF_ready (rs := [20]) (by kernel_rfl) (by simp) ?_
              refine AllReadyF.last (o := _) rfl (by rfl) (fun K hK => ?_) AllReadyF.nil
              refine step_copy_only rfl (.tmp 48) (.tmp 58) 28 28 rfl 5 Try.underlying28 size_u8 (some ⟨r.bl, a, none⟩) (some ⟨r.bn, a, none⟩) 8 e9 8 e9 rfl rfl r.bl a (bvals (lastsQ V)) 5 HR.out.hl (bvals (((nowsL V).drop a).take 8)) HCL.out HPO.out HFT.out (bvals_one _) ?_
              intro w2 hq3 hg3
              rw [bvals_splB] at hq3
              have HG3 := Lib.hid (grown_undrew hg3)
              have hw3 := HR.out.lasts' HG3.out hq3.out (by rw [splB_len (by rw [hl8]; have := HR.out.ln; have := HAA.out; omega)]; exact HR.out.ln.1) (splB_ok (by rw [hl8]; have := HR.out.ln; have := HAA.out; omega) HR.out.by_.1 (fun v hv => HR.out.by_.2.1 v (List.mem_of_mem_drop (List.mem_of_mem_take hv))))
              have HWw2 := Lib.hid hw3
              have HTw2 : Hid (Turns (R5 r) wr w2) := Lib.hid (Turns.of_grown HG3.out (fun j e => by injection e with e; exact .inr (.inl e.symm)))
              clear hq3 hg3 hw3 hl8 k0 k1
              rw [show goInt (bvals (((nowsL V).drop a).take 8)).length = Value.int .i64 8 from by rw [HCL.out]; rfl]
              refine hK.out _ _ ?_
              clear hK K
              (try simp only [Act.put, List.getElem_toArray, List.getElem_cons_succ, List.getElem_cons_zero, List.setIfInBounds_toArray, List.set_cons_zero, List.set_cons_succ])
              refine wpAnyF_done (by kernel_rfl) ?_ _
              clear HCL HPO HFT
              go_upto_region 8 with (fail)
              have hl8 : (((splB (lastsQ V) a (((nowsL V).drop a).take 8)).drop a).take 8).length = 8 := by rw [List.length_take, List.length_drop]; have := HWw2.out.ln; have := HAA.out; omega
              have HCL : Hid ((bvals (((splB (lastsQ V) a (((nowsL V).drop a).take 8)).drop a).take 8)).length = Nat.min 8 8) := Lib.hid (by rw [bvals_len, hl8]; rfl)
              have HPO : Hid (0 < (bvals (((splB (lastsQ V) a (((nowsL V).drop a).take 8)).drop a).take 8)).length → (some ⟨r.bn, a, none⟩ : Option Addr) = some ⟨r.bn, a, none⟩ ∧ ∃ ad, (some ⟨r.bl, a, none⟩ : Option Addr) = some ad ∧ ∀ j v, (bvals (((splB (lastsQ V) a (((nowsL V).drop a).take 8)).drop a).take 8))[j]? = some v → w2.cell? (ad.add j) = some v) := Lib.hid (fun _ => ⟨rfl, _, rfl, row_reads HWw2.out.hl (by have := HWw2.out.ln; have := HAA.out; omega)⟩)
              have HFT : Hid (a + (bvals (((splB (lastsQ V) a (((nowsL V).drop a).take 8)).drop a).take 8)).length ≤ (bvals (nowsL V)).length) := Lib.hid (by rw [bvals_len, bvals_len, hl8]; have := HWw2.out.ln; have := HAA.out; omega)
              have k0 : w2.cell? ⟨r.g, 0, none⟩ = some (.slice (some ⟨r.bl, 0, none⟩) N N) := HWw2.out.cell 0
              have k1 : w2.cell? ⟨r.g, 1, none⟩ = some (.slice (some ⟨r.bn, 0, none⟩) N N) := HWw2.out.cell 1
              refine wp_region_F (S := fun w' => w' = w2.drew) [20] (by kernel_rfl) (rfl) (fun hHeld => ?_)
              refine wpAnyG_take (i := 0) (oi := _) (v := ?_) rfl (by kernel_rfl) (by kernel_rfl) (by kernel_rfl) (by kernel_rfl) (by kernel_rfl) (fun _ _ _ h => h) (Or.inl ⟨by rfl, ?_⟩) (by assumption) ?_
              rotate_left 1
              · intro w hSw
                (try dsimp only at hSw)
                (first | (go_simp; done) | (go_simp; with_reducible rfl))
              (try simp only [Act.put, List.getElem_toArray, List.getElem_cons_succ, List.getElem_cons_zero, List.setIfInBounds_toArray, List.set_cons_zero, List.set_cons_succ])
              refine wpAnyG_take (i := 1) (oi := _) (v := ?_) rfl (by kernel_rfl) (by kernel_rfl) (by kernel_rfl) (by kernel_rfl) (by kernel_rfl) (fun _ _ _ h => h) (Or.inl ⟨by rfl, ?_⟩) (by assumption) ?_
              rotate_left 1
              · intro w hSw
                (try dsimp only at hSw)
                (first | (go_simp; done) | (go_simp; with_reducible rfl))
              (try simp only [Act.put, List.getElem_toArray, List.getElem_cons_succ, List.getElem_cons_zero, List.setIfInBounds_toArray, List.set_cons_zero, List.set_cons_succ])
              refine wpAnyG_take (i := 2) (oi := _) (v := ?_) rfl (by kernel_rfl) (by kernel_rfl) (by kernel_rfl) (by kernel_rfl) (by kernel_rfl) (fun _ _ _ h => h) (Or.inl ⟨by rfl, ?_⟩) (by assumption) ?_
              rotate_left 1
              · intro w hSw
                (try dsimp only at hSw)
                (first | (go_simp; done) | (go_simp; with_reducible rfl))
              (try simp only [Act.put, List.getElem_toArray, List.getElem_cons_succ, List.getElem_cons_zero, List.setIfInBounds_toArray, List.set_cons_zero, List.set_cons_succ])
              refine wpAnyG_take (i := 3) (oi := _) (v := ?_) rfl (by kernel_rfl) (by kernel_rfl) (by kernel_rfl) (by kernel_rfl) (by kernel_rfl) (fun _ _ _ h => h) (Or.inl ⟨by rfl, ?_⟩) (by assumption) ?_
              rotate_left 1
              · intro w hSw
                (try dsimp only at hSw)
                (first | (go_simp; done) | (go_simp; with_reducible rfl))
              (try simp only [Act.put, List.getElem_toArray, List.getElem_cons_succ, List.getElem_cons_zero, List.setIfInBounds_toArray, List.set_cons_zero, List.set_cons_succ])
              refine wpAnyG_take (i := 4) (oi := _) (v := ?_) rfl (by kernel_rfl) (by kernel_rfl) (by kernel_rfl) (by kernel_rfl) (by kernel_rfl) (fun _ _ _ h => h) (Or.inl ⟨by rfl, ?_⟩) (by assumption) ?_
              rotate_left 1
              · intro w hSw
                (try dsimp only at hSw)
                (first | (go_simp; done) | (go_simp; with_reducible rfl))
              (try simp only [Act.put, List.getElem_toArray, List.getElem_cons_succ, List.getElem_cons_zero, List.setIfInBounds_toArray, List.set_cons_zero, List.set_cons_succ])
              refine wpAnyG_take (i := 5) (oi := _) (v := ?_) rfl (by kernel_rfl) (by kernel_rfl) (by kernel_rfl) (by kernel_rfl) (by kernel_rfl) (fun _ _ _ h => h) (Or.inl ⟨by rfl, ?_⟩) (by assumption) ?_
              rotate_left 1
              · intro w hSw
                (try dsimp only at hSw)
                (first | (go_simp; done) | (go_simp; with_reducible rfl))
              (try simp only [Act.put, List.getElem_toArray, List.getElem_cons_succ, List.getElem_cons_zero, List.setIfInBounds_toArray, List.set_cons_zero, List.set_cons_succ])
              refine wpAnyG_take (i := 6) (oi := _) (v := ?_) rfl (by kernel_rfl) (by kernel_rfl) (by kernel_rfl) (by kernel_rfl) (by kernel_rfl) (fun _ _ _ h => h) (Or.inl ⟨by rfl, ?_⟩) (by assumption) ?_
              rotate_left 1
              · intro w hSw
                (try dsimp only at hSw)
                (first | (go_simp; done) | (go_simp; with_reducible rfl))
              (try simp only [Act.put, List.getElem_toArray, List.getElem_cons_succ, List.getElem_cons_zero, List.setIfInBounds_toArray, List.set_cons_zero, List.set_cons_succ])
              refine wpAnyG_take (i := 7) (oi := _) (v := ?_) rfl (by kernel_rfl) (by kernel_rfl) (by kernel_rfl) (by kernel_rfl) (by kernel_rfl) (fun _ _ _ h => h) (Or.inl ⟨by rfl, ?_⟩) (by assumption) ?_
              rotate_left 1
              · intro w hSw
                (try dsimp only at hSw)
                (first | (go_simp; done) | (go_simp; with_reducible rfl))
              (try simp only [Act.put, List.getElem_toArray, List.getElem_cons_succ, List.getElem_cons_zero, List.setIfInBounds_toArray, List.set_cons_zero, List.set_cons_succ])
              refine wpAnyG_take (i := 8) (oi := _) (v := ?_) rfl (by kernel_rfl) (by kernel_rfl) (by kernel_rfl) (by kernel_rfl) (by kernel_rfl) (fun _ _ _ h => h) (Or.inl ⟨by rfl, ?_⟩) (by assumption) ?_
              rotate_left 1
              · intro w hSw
                (try dsimp only at hSw)
                (first | (go_simp; done) | (go_simp; with_reducible rfl))
              (try simp only [Act.put, List.getElem_toArray, List.getElem_cons_succ, List.getElem_cons_zero, List.setIfInBounds_toArray, List.set_cons_zero, List.set_cons_succ])
              refine wpAnyG_take (i := 9) (oi := _) (v := ?_) rfl (by kernel_rfl) (by kernel_rfl) (by kernel_rfl) (by kernel_rfl) (by kernel_rfl) (fun _ _ _ h => h) (Or.inl ⟨by rfl, ?_⟩) (by assumption) ?_
              rotate_left 1
              · intro w hSw
                (try dsimp only at hSw)
                (first | (go_simp; done) | (go_simp; with_reducible rfl))
              (try simp only [Act.put, List.getElem_toArray, List.getElem_cons_succ, List.getElem_cons_zero, List.setIfInBounds_toArray, List.set_cons_zero, List.set_cons_succ])
              refine wpAnyG_take (i := 10) (oi := _) (v := ?_) rfl (by kernel_rfl) (by kernel_rfl) (by kernel_rfl) (by kernel_rfl) (by kernel_rfl) (fun _ _ _ h => h) (Or.inl ⟨by rfl, ?_⟩) (by assumption) ?_
              rotate_left 1
              · intro w hSw
                (try dsimp only at hSw)
                (first | (go_simp; done) | (go_simp; with_reducible rfl))
              (try simp only [Act.put, List.getElem_toArray, List.getElem_cons_succ, List.getElem_cons_zero, List.setIfInBounds_toArray, List.set_cons_zero, List.set_cons_succ])
              refine wpAnyG_take (i := 11) (oi := _) (v := ?_) rfl (by kernel_rfl) (by kernel_rfl) (by kernel_rfl) (by kernel_rfl) (by kernel_rfl) (fun _ _ _ h => h) (Or.inl ⟨by rfl, ?_⟩) (by assumption) ?_
              rotate_left 1
              · intro w hSw
                (try dsimp only at hSw)
                (first | (go_simp; done) | (go_simp; with_reducible rfl))
              (try simp only [Act.put, List.getElem_toArray, List.getElem_cons_succ, List.getElem_cons_zero, List.setIfInBounds_toArray, List.set_cons_zero, List.set_cons_succ])
              refine wpAnyG_take (i := 12) (oi := _) (v := ?_) rfl (by kernel_rfl) (by kernel_rfl) (by kernel_rfl) (by kernel_rfl) (by kernel_rfl) (fun _ _ _ h => h) (Or.inl ⟨by rfl, ?_⟩) (by assumption) ?_
              rotate_left 1
              · intro w hSw
                (try dsimp only at hSw)
                (first | (go_simp; done) | (go_simp; with_reducible rfl))
              (try simp only [Act.put, List.getElem_toArray, List.getElem_cons_succ, List.getElem_cons_zero, List.setIfInBounds_toArray, List.set_cons_zero, List.set_cons_succ])
              refine wpAnyG_take (i := 13) (oi := _) (v := ?_) rfl (by kernel_rfl) (by kernel_rfl) (by kernel_rfl) (by kernel_rfl) (by kernel_rfl) (fun _ _ _ h => h) (Or.inl ⟨by rfl, ?_⟩) (by assumption) ?_
              rotate_left 1
              · intro w hSw
                (try dsimp only at hSw)
                (first | (go_simp; done) | (go_simp; with_reducible rfl))
              (try simp only [Act.put, List.getElem_toArray, List.getElem_cons_succ, List.getElem_cons_zero, List.setIfInBounds_toArray, List.set_cons_zero, List.set_cons_succ])
              refine wpAnyG_take (i := 14) (oi := _) (v := ?_) rfl (by kernel_rfl) (by kernel_rfl) (by kernel_rfl) (by kernel_rfl) (by kernel_rfl) (fun _ _ _ h => h) (Or.inl ⟨by rfl, ?_⟩) (by assumption) ?_
              rotate_left 1
              · intro w hSw
                (try dsimp only at hSw)
                (first | (go_simp; done) | (go_simp; with_reducible rfl))
              (try simp only [Act.put, List.getElem_toArray, List.getElem_cons_succ, List.getElem_cons_zero, List.setIfInBounds_toArray, List.set_cons_zero, List.set_cons_succ])
              refine wpAnyG_take (i := 15) (oi := _) (v := ?_) rfl (by kernel_rfl) (by kernel_rfl) (by kernel_rfl) (by kernel_rfl) (by kernel_rfl) (fun _ _ _ h => h) (Or.inl ⟨by rfl, ?_⟩) (by assumption) ?_
              rotate_left 1
              · intro w hSw
                (try dsimp only at hSw)
                (first | (go_simp; done) | (go_simp; with_reducible rfl))
              (try simp only [Act.put, List.getElem_toArray, List.getElem_cons_succ, List.getElem_cons_zero, List.setIfInBounds_toArray, List.set_cons_zero, List.set_cons_succ])
              refine wpAnyG_take (i := 16) (oi := _) (v := ?_) rfl (by kernel_rfl) (by kernel_rfl) (by kernel_rfl) (by kernel_rfl) (by kernel_rfl) (fun _ _ _ h => h) (Or.inl ⟨by rfl, ?_⟩) (by assumption) ?_
              rotate_left 1
              · intro w hSw
                (try dsimp only at hSw)
                (first | (go_simp; done) | (go_simp; with_reducible rfl))
              (try simp only [Act.put, List.getElem_toArray, List.getElem_cons_succ, List.getElem_cons_zero, List.setIfInBounds_toArray, List.set_cons_zero, List.set_cons_succ])
              refine wpAnyG_take (i := 17) (oi := _) (v := ?_) rfl (by kernel_rfl) (by kernel_rfl) (by kernel_rfl) (by kernel_rfl) (by kernel_rfl) (fun _ _ _ h => h) (Or.inl ⟨by rfl, ?_⟩) (by assumption) ?_
              rotate_left 1
              · intro w hSw
                (try dsimp only at hSw)
                (first | (go_simp; done) | (go_simp; with_reducible rfl))
              (try simp only [Act.put, List.getElem_toArray, List.getElem_cons_succ, List.getElem_cons_zero, List.setIfInBounds_toArray, List.set_cons_zero, List.set_cons_succ])
              refine wpAnyG_take (i := 18) (oi := _) (v := ?_) rfl (by kernel_rfl) (by kernel_rfl) (by kernel_rfl) (by kernel_rfl) (by kernel_rfl) (fun _ _ _ h => h) (Or.inl ⟨by rfl, ?_⟩) (by assumption) ?_
              rotate_left 1
              · intro w hSw
                (try dsimp only at hSw)
                (first | (go_simp; done) | (go_simp; with_reducible rfl))
              (try simp only [Act.put, List.getElem_toArray, List.getElem_cons_succ, List.getElem_cons_zero, List.setIfInBounds_toArray, List.set_cons_zero, List.set_cons_succ])
              refine wpAnyG_take (i := 19) (oi := _) (v := ?_) rfl (by kernel_rfl) (by kernel_rfl) (by kernel_rfl) (by kernel_rfl) (by kernel_rfl) (fun _ _ _ h => h) (Or.inl ⟨by rfl, ?_⟩) (by assumption) ?_
              rotate_left 1
              · intro w hSw
                (try dsimp only at hSw)
                (first | (go_simp; done) | (go_simp; with_reducible rfl))
              (try simp only [Act.put, List.getElem_toArray, List.getElem_cons_succ, List.getElem_cons_zero, List.setIfInBounds_toArray, List.set_cons_zero, List.set_cons_succ])
              refine wpAnyF_ready (rs := [20]) (by kernel_rfl) (by simp) ?_
              refine AllReadyF.last (o := _) rfl (by rfl) (fun K hK => ?_) AllReadyF.nil
              refine step_copy_only rfl (.tmp 69) (.tmp 79) 28 28 rfl 5 Try.underlying28 size_u8 (some ⟨r.bn, a, none⟩) (some ⟨r.bl, a, none⟩) 8 e9 8 e9 rfl rfl r.bn a (bvals (nowsL V)) 5 HWw2.out.hn (bvals (((splB (lastsQ V) a (((nowsL V).drop a).take 8)).drop a).take 8)) HCL.out HPO.out HFT.out (bvals_one _) ?_
              intro w3 hq3 hg3
              rw [bvals_splB] at hq3
              have HG3 := Lib.hid (grown_undrew hg3)
              have hw3 := HWw2.out.now' HG3.out hq3.out (by rw [splB_len (by rw [hl8]; have := HWw2.out.ln; have := HAA.out; omega)]; exact HWw2.out.ln.2.1) (splB_ok (by rw [hl8]; have := HWw2.out.ln; have := HAA.out; omega) HWw2.out.by_.2.1 (fun v hv => HWw2.out.by_.1 v (List.mem_of_mem_drop (List.mem_of_mem_take hv))))
              have HWw3 := Lib.hid hw3
              have HTw3 : Hid (Turns (R5 r) w2 w3) := Lib.hid (Turns.of_grown HG3.out (fun j e => by injection e with e; exact .inr (.inr (.inl e.symm))))
              clear hq3 hg3 hw3 hl8 k0 k1
              rw [show goInt (bvals (((splB (lastsQ V) a (((nowsL V).drop a).take 8)).drop a).take 8)).length = Value.int .i64 8 from by rw [HCL.out]; rfl]
              refine hK.out _ _ ?_
              clear hK K
              (try simp only [Act.put, List.getElem_toArray, List.getElem_cons_succ, List.getElem_cons_zero, List.setIfInBounds_toArray, List.set_cons_zero, List.set_cons_succ])
              refine wpAnyF_done (by kernel_rfl) ?_ _
              clear HCL HPO HFT
              have HTT : Hid (Turns (R5 r) w w3) := Lib.hid ((HT0.out.trans (S' := R5 r) HTw2.out (fun _ _ q => q)).trans (S' := R5 r) HTw3.out (fun _ _ q => q))
              have c2 : w3.cell? ⟨r.g, 2, none⟩ = some (.slice (some ⟨r.bp, 0, none⟩) M M) := HWw3.out.cell 2
              have c3 : w3.cell? ⟨r.g, 3, none⟩ = some (.slice (some ⟨r.bm, 0, none⟩) M M) := HWw3.out.cell 3
              obtain ⟨⟨bp1, p1⟩, ⟨bm1, p2⟩, p3, p4⟩ := HWw3.out.pm hiM
              have n1 := HWw3.out.lt
              have n2 := HWw3.out.ne
              have n3 : ¬ r.g = r.bp := by omega
              have n4 : ¬ r.bm = r.bp := fun e => n2.2.2.2.2.2 e.symm
              have HEND : Hid (CrR w r L N M kv av pl s.u s.k s.al ws l (.int .i64 ((i : Int) + 1)) (.int .i64 ((cc2 : Nat) : Int)) ((w3.setCell ⟨r.bp, i, none⟩ (.bool false)).setCell ⟨r.bm, i, none⟩ (.bool false))) := Lib.hid (by
                have e1 := (HWw3.out.setPend i false).setMark i false
                refine ⟨i + 1, by simp, by rw [HC2.out], by have := HIM.out; omega, ?_, ?_⟩
                · unfold RL
                  rw [← turnW_next (crF l ws) (Nat.zero_le i) HX.out]
                  have hxx : (turnW (crF l ws) 0 i ws)[i]? = some x := turnW_here _ HX.out
                  have hy : crF l ws i x = x.keep := HY.out
                  rw [hy, List.map_set, List.map_set]
                  rw [set_lasts HOKV.out hxx (show x.keep.lasts.length = 8 from HXO.out.n), same_now hxx (show x.keep.now = x.now from rfl), ← HV.out, show x.keep.lasts = x.now from rfl, ← take8_now HOKV2.out HXV.out, ← HAA.out.1]
                  have e2 := HBACK.out
                  rw [e2] at e1
                  exact e1
                · exact ((HTT.out.trans (S' := R5 r) (Turns.set (S := R5 r) ⟨r.bp, i, none⟩ _ (.inr (.inr (.inr (.inl rfl))))) (fun _ _ q => q)).trans (S' := R5 r) (Turns.set (S := R5 r) ⟨r.bm, i, none⟩ _ (.inr (.inr (.inr (.inr rfl))))) (fun _ _ q => q)))
              clear n1 n2
              go_wp2_with fail
              go_roundw
              case rel => exact HEND.out
              case measure => have := HIM.out; simp [intOf]; omega
            · have HY : Hid (crF l ws i x = x.lose) := Lib.hid (by rw [HCRF.out]; unfold Wd.cr; rw [hp, if_pos rfl, HPK.out, hv2]; rfl)
              have hvm : (v : Int).tmod 2 = 0 := by have := Int.ofNat_tmod v 2; rw [hv2] at this; exact this.symm
              clear hp hcc3 hrr hv2
              go_upto_region 8 with (fail)
              have hl8 : (((lastsQ V).drop a).take 8).length = 8 := by rw [List.length_take, List.length_drop]; have := HR.out.ln; have := HAA.out; omega
              have HCL : Hid ((bvals (((lastsQ V).drop a).take 8)).length = Nat.min 8 8) := Lib.hid (by rw [bvals_len, hl8]; rfl)
              have HPO : Hid (0 < (bvals (((lastsQ V).drop a).take 8)).length → (some ⟨r.bn, a, none⟩ : Option Addr) = some ⟨r.bn, a, none⟩ ∧ ∃ ad, (some ⟨r.bl, a, none⟩ : Option Addr) = some ad ∧ ∀ j v, (bvals (((lastsQ V).drop a).take 8))[j]? = some v → wr.cell? (ad.add j) = some v) := Lib.hid (fun _ => ⟨rfl, _, rfl, row_reads HR.out.hl (by have := HR.out.ln; have := HAA.out; omega)⟩)
              have HFT : Hid (a + (bvals (((lastsQ V).drop a).take 8)).length ≤ (bvals (nowsL V)).length) := Lib.hid (by rw [bvals_len, bvals_len, hl8]; have := HR.out.ln; have := HAA.out; omega)
              have k0 : wr.cell? ⟨r.g, 0, none⟩ = some (.slice (some ⟨r.bl, 0, none⟩) N N) := HR.out.cell 0
              have k1 : wr.cell? ⟨r.g, 1, none⟩ = some (.slice (some ⟨r.bn, 0, none⟩) N N) := HR.out.cell 1
              refine wp_region_F (S := fun w' => w' = wr.drew) [20] (by kernel_rfl) (rfl) (fun hHeld => ?_)
              refine wpAnyG_take (i := 0) (oi := _) (v := ?_) rfl (by kernel_rfl) (by kernel_rfl) (by kernel_rfl) (by kernel_rfl) (by kernel_rfl) (fun _ _ _ h => h) (Or.inl ⟨by rfl, ?_⟩) (by assumption) ?_
              rotate_left 1
              · intro w hSw
                (try dsimp only at hSw)
                (first | (go_simp; done) | (go_simp; with_reducible rfl))
              (try simp only [Act.put, List.getElem_toArray, List.getElem_cons_succ, List.getElem_cons_zero, List.setIfInBounds_toArray, List.set_cons_zero, List.set_cons_succ])
              refine wpAnyG_take (i := 1) (oi := _) (v := ?_) rfl (by kernel_rfl) (by kernel_rfl) (by kernel_rfl) (by kernel_rfl) (by kernel_rfl) (fun _ _ _ h => h) (Or.inl ⟨by rfl, ?_⟩) (by assumption) ?_
              rotate_left 1
              · intro w hSw
                (try dsimp only at hSw)
                (first | (go_simp; done) | (go_simp; with_reducible rfl))
              (try simp only [Act.put, List.getElem_toArray, List.getElem_cons_succ, List.getElem_cons_zero, List.setIfInBounds_toArray, List.set_cons_zero, List.set_cons_succ])
              refine wpAnyG_take (i := 2) (oi := _) (v := ?_) rfl (by kernel_rfl) (by kernel_rfl) (by kernel_rfl) (by kernel_rfl) (by kernel_rfl) (fun _ _ _ h => h) (Or.inl ⟨by rfl, ?_⟩) (by assumption) ?_
              rotate_left 1
              · intro w hSw
                (try dsimp only at hSw)
                (first | (go_simp; done) | (go_simp; with_reducible rfl))
              (try simp only [Act.put, List.getElem_toArray, List.getElem_cons_succ, List.getElem_cons_zero, List.setIfInBounds_toArray, List.set_cons_zero, List.set_cons_succ])
              refine wpAnyG_take (i := 3) (oi := _) (v := ?_) rfl (by kernel_rfl) (by kernel_rfl) (by kernel_rfl) (by kernel_rfl) (by kernel_rfl) (fun _ _ _ h => h) (Or.inl ⟨by rfl, ?_⟩) (by assumption) ?_
              rotate_left 1
              · intro w hSw
                (try dsimp only at hSw)
                (first | (go_simp; done) | (go_simp; with_reducible rfl))
              (try simp only [Act.put, List.getElem_toArray, List.getElem_cons_succ, List.getElem_cons_zero, List.setIfInBounds_toArray, List.set_cons_zero, List.set_cons_succ])
              refine wpAnyG_take (i := 4) (oi := _) (v := ?_) rfl (by kernel_rfl) (by kernel_rfl) (by kernel_rfl) (by kernel_rfl) (by kernel_rfl) (fun _ _ _ h => h) (Or.inl ⟨by rfl, ?_⟩) (by assumption) ?_
              rotate_left 1
              · intro w hSw
                (try dsimp only at hSw)
                (first | (go_simp; done) | (go_simp; with_reducible rfl))
              (try simp only [Act.put, List.getElem_toArray, List.getElem_cons_succ, List.getElem_cons_zero, List.setIfInBounds_toArray, List.set_cons_zero, List.set_cons_succ])
              refine wpAnyG_take (i := 5) (oi := _) (v := ?_) rfl (by kernel_rfl) (by kernel_rfl) (by kernel_rfl) (by kernel_rfl) (by kernel_rfl) (fun _ _ _ h => h) (Or.inl ⟨by rfl, ?_⟩) (by assumption) ?_
              rotate_left 1
              · intro w hSw
                (try dsimp only at hSw)
                (first | (go_simp; done) | (go_simp; with_reducible rfl))
              (try simp only [Act.put, List.getElem_toArray, List.getElem_cons_succ, List.getElem_cons_zero, List.setIfInBounds_toArray, List.set_cons_zero, List.set_cons_succ])
              refine wpAnyG_take (i := 6) (oi := _) (v := ?_) rfl (by kernel_rfl) (by kernel_rfl) (by kernel_rfl) (by kernel_rfl) (by kernel_rfl) (fun _ _ _ h => h) (Or.inl ⟨by rfl, ?_⟩) (by assumption) ?_
              rotate_left 1
              · intro w hSw
                (try dsimp only at hSw)
                (first | (go_simp; done) | (go_simp; with_reducible rfl))
              (try simp only [Act.put, List.getElem_toArray, List.getElem_cons_succ, List.getElem_cons_zero, List.setIfInBounds_toArray, List.set_cons_zero, List.set_cons_succ])
              refine wpAnyG_take (i := 7) (oi := _) (v := ?_) rfl (by kernel_rfl) (by kernel_rfl) (by kernel_rfl) (by kernel_rfl) (by kernel_rfl) (fun _ _ _ h => h) (Or.inl ⟨by rfl, ?_⟩) (by assumption) ?_
              rotate_left 1
              · intro w hSw
                (try dsimp only at hSw)
                (first | (go_simp; done) | (go_simp; with_reducible rfl))
              (try simp only [Act.put, List.getElem_toArray, List.getElem_cons_succ, List.getElem_cons_zero, List.setIfInBounds_toArray, List.set_cons_zero, List.set_cons_succ])
              refine wpAnyG_take (i := 8) (oi := _) (v := ?_) rfl (by kernel_rfl) (by kernel_rfl) (by kernel_rfl) (by kernel_rfl) (by kernel_rfl) (fun _ _ _ h => h) (Or.inl ⟨by rfl, ?_⟩) (by assumption) ?_
              rotate_left 1
              · intro w hSw
                (try dsimp only at hSw)
                (first | (go_simp; done) | (go_simp; with_reducible rfl))
              (try simp only [Act.put, List.getElem_toArray, List.getElem_cons_succ, List.getElem_cons_zero, List.setIfInBounds_toArray, List.set_cons_zero, List.set_cons_succ])
              refine wpAnyG_take (i := 9) (oi := _) (v := ?_) rfl (by kernel_rfl) (by kernel_rfl) (by kernel_rfl) (by kernel_rfl) (by kernel_rfl) (fun _ _ _ h => h) (Or.inl ⟨by rfl, ?_⟩) (by assumption) ?_
              rotate_left 1
              · intro w hSw
                (try dsimp only at hSw)
                (first | (go_simp; done) | (go_simp; with_reducible rfl))
              (try simp only [Act.put, List.getElem_toArray, List.getElem_cons_succ, List.getElem_cons_zero, List.setIfInBounds_toArray, List.set_cons_zero, List.set_cons_succ])
              refine wpAnyG_take (i := 10) (oi := _) (v := ?_) rfl (by kernel_rfl) (by kernel_rfl) (by kernel_rfl) (by kernel_rfl) (by kernel_rfl) (fun _ _ _ h => h) (Or.inl ⟨by rfl, ?_⟩) (by assumption) ?_
              rotate_left 1
              · intro w hSw
                (try dsimp only at hSw)
                (first | (go_simp; done) | (go_simp; with_reducible rfl))
              (try simp only [Act.put, List.getElem_toArray, List.getElem_cons_succ, List.getElem_cons_zero, List.setIfInBounds_toArray, List.set_cons_zero, List.set_cons_succ])
              refine wpAnyG_take (i := 11) (oi := _) (v := ?_) rfl (by kernel_rfl) (by kernel_rfl) (by kernel_rfl) (by kernel_rfl) (by kernel_rfl) (fun _ _ _ h => h) (Or.inl ⟨by rfl, ?_⟩) (by assumption) ?_
              rotate_left 1
              · intro w hSw
                (try dsimp only at hSw)
                (first | (go_simp; done) | (go_simp; with_reducible rfl))
              (try simp only [Act.put, List.getElem_toArray, List.getElem_cons_succ, List.getElem_cons_zero, List.setIfInBounds_toArray, List.set_cons_zero, List.set_cons_succ])
              refine wpAnyG_take (i := 12) (oi := _) (v := ?_) rfl (by kernel_rfl) (by kernel_rfl) (by kernel_rfl) (by kernel_rfl) (by kernel_rfl) (fun _ _ _ h => h) (Or.inl ⟨by rfl, ?_⟩) (by assumption) ?_
              rotate_left 1
              · intro w hSw
                (try dsimp only at hSw)
                (first | (go_simp; done) | (go_simp; with_reducible rfl))
              (try simp only [Act.put, List.getElem_toArray, List.getElem_cons_succ, List.getElem_cons_zero, List.setIfInBounds_toArray, List.set_cons_zero, List.set_cons_succ])
              refine wpAnyG_take (i := 13) (oi := _) (v := ?_) rfl (by kernel_rfl) (by kernel_rfl) (by kernel_rfl) (by kernel_rfl) (by kernel_rfl) (fun _ _ _ h => h) (Or.inl ⟨by rfl, ?_⟩) (by assumption) ?_
              rotate_left 1
              · intro w hSw
                (try dsimp only at hSw)
                (first | (go_simp; done) | (go_simp; with_reducible rfl))
              (try simp only [Act.put, List.getElem_toArray, List.getElem_cons_succ, List.getElem_cons_zero, List.setIfInBounds_toArray, List.set_cons_zero, List.set_cons_succ])
              refine wpAnyG_take (i := 14) (oi := _) (v := ?_) rfl (by kernel_rfl) (by kernel_rfl) (by kernel_rfl) (by kernel_rfl) (by kernel_rfl) (fun _ _ _ h => h) (Or.inl ⟨by rfl, ?_⟩) (by assumption) ?_
              rotate_left 1
              · intro w hSw
                (try dsimp only at hSw)
                (first | (go_simp; done) | (go_simp; with_reducible rfl))
              (try simp only [Act.put, List.getElem_toArray, List.getElem_cons_succ, List.getElem_cons_zero, List.setIfInBounds_toArray, List.set_cons_zero, List.set_cons_succ])
              refine wpAnyG_take (i := 15) (oi := _) (v := ?_) rfl (by kernel_rfl) (by kernel_rfl) (by kernel_rfl) (by kernel_rfl) (by kernel_rfl) (fun _ _ _ h => h) (Or.inl ⟨by rfl, ?_⟩) (by assumption) ?_
              rotate_left 1
              · intro w hSw
                (try dsimp only at hSw)
                (first | (go_simp; done) | (go_simp; with_reducible rfl))
              (try simp only [Act.put, List.getElem_toArray, List.getElem_cons_succ, List.getElem_cons_zero, List.setIfInBounds_toArray, List.set_cons_zero, List.set_cons_succ])
              refine wpAnyG_take (i := 16) (oi := _) (v := ?_) rfl (by kernel_rfl) (by kernel_rfl) (by kernel_rfl) (by kernel_rfl) (by kernel_rfl) (fun _ _ _ h => h) (Or.inl ⟨by rfl, ?_⟩) (by assumption) ?_
              rotate_left 1
              · intro w hSw
                (try dsimp only at hSw)
                (first | (go_simp; done) | (go_simp; with_reducible rfl))
              (try simp only [Act.put, List.getElem_toArray, List.getElem_cons_succ, List.getElem_cons_zero, List.setIfInBounds_toArray, List.set_cons_zero, List.set_cons_succ])
              refine wpAnyG_take (i := 17) (oi := _) (v := ?_) rfl (by kernel_rfl) (by kernel_rfl) (by kernel_rfl) (by kernel_rfl) (by kernel_rfl) (fun _ _ _ h => h) (Or.inl ⟨by rfl, ?_⟩) (by assumption) ?_
              rotate_left 1
              · intro w hSw
                (try dsimp only at hSw)
                (first | (go_simp; done) | (go_simp; with_reducible rfl))
              (try simp only [Act.put, List.getElem_toArray, List.getElem_cons_succ, List.getElem_cons_zero, List.setIfInBounds_toArray, List.set_cons_zero, List.set_cons_succ])
              refine wpAnyG_take (i := 18) (oi := _) (v := ?_) rfl (by kernel_rfl) (by kernel_rfl) (by kernel_rfl) (by kernel_rfl) (by kernel_rfl) (fun _ _ _ h => h) (Or.inl ⟨by rfl, ?_⟩) (by assumption) ?_
              rotate_left 1
              · intro w hSw
                (try dsimp only at hSw)
                (first | (go_simp; done) | (go_simp; with_reducible rfl))
              (try simp only [Act.put, List.getElem_toArray, List.getElem_cons_succ, List.getElem_cons_zero, List.setIfInBounds_toArray, List.set_cons_zero, List.set_cons_succ])
              refine wpAnyG_take (i := 19) (oi := _) (v := ?_) rfl (by kernel_rfl) (by kernel_rfl) (by kernel_rfl) (by kernel_rfl) (by kernel_rfl) (fun _ _ _ h => h) (Or.inl ⟨by rfl, ?_⟩) (by assumption) ?_
              rotate_left 1
              · intro w hSw
                (try dsimp only at hSw)
                (first | (go_simp; done) | (go_simp; with_reducible rfl))
              (try simp only [Act.put, List.getElem_toArray, List.getElem_cons_succ, List.getElem_cons_zero, List.setIfInBounds_toArray, List.set_cons_zero, List.set_cons_succ])
              refine wpAnyF_ready (rs := [20]) (by kernel_rfl) (by simp) ?_
              refine AllReadyF.last (o := _) rfl (by rfl) (fun K hK => ?_) AllReadyF.nil
              refine step_copy_only rfl (.tmp 69) (.tmp 79) 28 28 rfl 5 Try.underlying28 size_u8 (some ⟨r.bn, a, none⟩) (some ⟨r.bl, a, none⟩) 8 e9 8 e9 rfl rfl r.bn a (bvals (nowsL V)) 5 HR.out.hn (bvals (((lastsQ V).drop a).take 8)) HCL.out HPO.out HFT.out (bvals_one _) ?_
              intro w3 hq3 hg3
              rw [bvals_splB] at hq3
              have HG3 := Lib.hid (grown_undrew hg3)
              have hw3 := HR.out.now' HG3.out hq3.out (by rw [splB_len (by rw [hl8]; have := HR.out.ln; have := HAA.out; omega)]; exact HR.out.ln.2.1) (splB_ok (by rw [hl8]; have := HR.out.ln; have := HAA.out; omega) HR.out.by_.2.1 (fun v hv => HR.out.by_.1 v (List.mem_of_mem_drop (List.mem_of_mem_take hv))))
              have HWw3 := Lib.hid hw3
              have HTw3 : Hid (Turns (R5 r) wr w3) := Lib.hid (Turns.of_grown HG3.out (fun j e => by injection e with e; exact .inr (.inr (.inl e.symm))))
              clear hq3 hg3 hw3 hl8 k0 k1
              rw [show goInt (bvals (((lastsQ V).drop a).take 8)).length = Value.int .i64 8 from by rw [HCL.out]; rfl]
              refine hK.out _ _ ?_
              clear hK K
              (try simp only [Act.put, List.getElem_toArray, List.getElem_cons_succ, List.getElem_cons_zero, List.setIfInBounds_toArray, List.set_cons_zero, List.set_cons_succ])
              refine wpAnyF_done (by kernel_rfl) ?_ _
              clear HCL HPO HFT
              have HTT : Hid (Turns (R5 r) w w3) := Lib.hid (HT0.out.trans (S' := R5 r) HTw3.out (fun _ _ q => q))
              have c2 : w3.cell? ⟨r.g, 2, none⟩ = some (.slice (some ⟨r.bp, 0, none⟩) M M) := HWw3.out.cell 2
              have c3 : w3.cell? ⟨r.g, 3, none⟩ = some (.slice (some ⟨r.bm, 0, none⟩) M M) := HWw3.out.cell 3
              obtain ⟨⟨bp1, p1⟩, ⟨bm1, p2⟩, p3, p4⟩ := HWw3.out.pm hiM
              have n1 := HWw3.out.lt
              have n2 := HWw3.out.ne
              have n3 : ¬ r.g = r.bp := by omega
              have n4 : ¬ r.bm = r.bp := fun e => n2.2.2.2.2.2 e.symm
              have HEND : Hid (CrR w r L N M kv av pl s.u s.k s.al ws l (.int .i64 ((i : Int) + 1)) (.int .i64 ((cc2 : Nat) : Int)) ((w3.setCell ⟨r.bp, i, none⟩ (.bool false)).setCell ⟨r.bm, i, none⟩ (.bool false))) := Lib.hid (by
                have e1 := (HWw3.out.setPend i false).setMark i false
                refine ⟨i + 1, by simp, by rw [HC2.out], by have := HIM.out; omega, ?_, ?_⟩
                · unfold RL
                  rw [← turnW_next (crF l ws) (Nat.zero_le i) HX.out]
                  have hxx : (turnW (crF l ws) 0 i ws)[i]? = some x := turnW_here _ HX.out
                  have hy : crF l ws i x = x.lose := HY.out
                  rw [hy, List.map_set, List.map_set]
                  rw [same_lasts hxx (show x.lose.lasts = x.lasts from rfl), set_now HOKV.out hxx (show x.lose.now.length = 8 from HXO.out.l), ← HV.out, show x.lose.now = x.lasts from rfl, ← take8_lasts HOKV2.out HXV.out, ← HAA.out.1]
                  exact e1
                · exact ((HTT.out.trans (S' := R5 r) (Turns.set (S := R5 r) ⟨r.bp, i, none⟩ _ (.inr (.inr (.inr (.inl rfl))))) (fun _ _ q => q)).trans (S' := R5 r) (Turns.set (S := R5 r) ⟨r.bm, i, none⟩ _ (.inr (.inr (.inr (.inr rfl))))) (fun _ _ q => q)))
              clear n1 n2
              go_wp2_with fail
              go_roundw
              case rel => exact HEND.out
              case measure => have := HIM.out; simp [intOf]; omega
      · have hlti : ¬ (i : Int) < (M : Int) := by omega
        obtain rfl : i = 8 * L := by have := HLM.out; omega
        unfold RL at HR
        have c4 : wr.cell? ⟨r.g, 4, none⟩ = some (.bool false) := HR.out.cell 4
        have c5 : wr.cell? ⟨r.g, 5, none⟩ = some (.int .i64 (s.u : Int)) := HR.out.cell 5
        have f4 := HR.out.free 4
        have f5 := HR.out.free 5
        have HF : Hid (RTo w r L N M kv av (.returned (.tuple #[])) (s.gone L l) (.returned (.tuple #[])) ((wr.setCell ⟨r.g, 4, none⟩ (.bool true)).setCell ⟨r.g, 5, none⟩ (.int .i64 0))) := Lib.hid (by
          have e1 := (HR.out.setOff true).setU 0
          have hcw : (s.gone L l).ws = turnW (crF l ws) 0 (8 * L) ws := by rw [HWS.out]; rfl
          refine ⟨rfl, kv, av, pl, ⟨?_, ?_, ?_, HH.out.L1, HH.out.sz, fun q => absurd q (Nat.lt_irrefl 0), Nat.zero_le _, ?_, HH.out.one⟩, ?_, fun j q => .inl q⟩
          · rw [hcw]; exact e1
          · rw [hcw]; exact turnW_ok _ (cr_ok l ws) 0 _ HOK0.out.1
          · rw [hcw, turnW_len]; exact HLM.out.1
          · rw [hcw]; exact turnW_mk _ (cr_mk l ws) 0 _ HOK0.out.2
          · exact ((HT0.out.mono (fun j _ q => r5_rs r kv av q)).trans (S' := RS r kv av) (Turns.set (S := RS r kv av) ⟨r.g, 4, none⟩ _ (.inl rfl)) (fun _ _ q => q)).trans (S' := RS r kv av) (Turns.set (S := RS r kv av) ⟨r.g, 5, none⟩ _ (.inl rfl)) (fun _ _ q => q))
        clear hrl htt
        go_wp2
        go_end0
        exact HF.out
  · rw [hof] at k4
    rw [if_pos rfl]
    have HF := Lib.hid (h.stay (.returned (.tuple #[])))
    clear h hb hoff hof
    go_enter Try.func32, Try.ntmps32
    go_wp2
    refine bodyPost_ret (results_none rfl _ _ _) rfl HF.out
end
end Go.Proofs.Ythigknolpdohoaa
