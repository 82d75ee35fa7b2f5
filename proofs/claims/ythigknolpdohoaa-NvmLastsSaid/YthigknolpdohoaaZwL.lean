/-
  Joined: NwI, NwJ, NwK0, NwK1, NwL.
-/
import Derived.Test.YthigknolpdohoaaZwE
namespace Go.Proofs.Ythigknolpdohoaa
set_option maxRecDepth 100000
section
open Go.RowKit Go
set_option linter.unusedVariables false
set_option linter.unusedSimpArgs false
/-- each byte of l whose word is not told to be stored into again lasts, and is read -/
def QL (at_ : Nat) (l : List Nat) (ag : List Bool) (ws : List Wd) : Prop :=
  ∀ (k v : Nat), l[k]? = some v → ag[((at_ + k) / 8 : Nat)]? = some false → ∃ x : Wd, ws[((at_ + k) / 8 : Nat)]? = some x ∧ x.lasts = x.now ∧ x.lasts[(at_ + k) % 8]? = some v
theorem QL.mono {at_ : Nat} {l : List Nat} {ag ag' : List Bool} {ws : List Wd} (h : QL at_ l ag ws) (hm : ∀ j : Nat, ag'[j]? = some false → ag[j]? = some false) : QL at_ l ag' ws :=
  fun k v hk ha => h k v hk (hm _ ha)
theorem QL.turn {at_ : Nat} {l : List Nat} {ag : List Bool} {ws : List Wd} (h : QL at_ l ag ws) (F : Nat → Wd → Wd) (hF : ∀ i (x : Wd), x.lasts = x.now → (F i x).lasts = x.lasts ∧ (F i x).now = x.now) (a m : Nat) : QL at_ l ag (turnW F a m ws) := fun k v hk ha => by
  obtain ⟨x, hx, h1, h2⟩ := h k v hk ha
  rw [turnW_at, hx]
  refine ⟨_, rfl, ?_⟩
  split
  · obtain ⟨h3, h4⟩ := hF ((at_ + k) / 8) x h1
    rw [h3, h4]
    exact ⟨h1, h2⟩
  · exact ⟨h1, h2⟩
theorem QL.put {at_ : Nat} {l : List Nat} {ag : List Bool} {ws : List Wd} (h : QL at_ l ag ws) (p : Nat) (q : List Nat) (hq : ∀ i, i < q.length → ag[(p + i) / 8]? ≠ some false) : QL at_ l ag (putW Wd.st p q ws) := fun k v hk ha => by
  obtain ⟨x, hx, h1, h2⟩ := h k v hk ha
  rw [putW_at, hx]
  refine ⟨_, rfl, ?_⟩
  unfold putB
  rw [if_neg ?_]
  · exact ⟨h1, h2⟩
  · intro hc
    have e : ∃ i, i < q.length ∧ (p + i) / 8 = (at_ + k) / 8 := ⟨max (8 * ((at_ + k) / 8)) p - p, by omega, by omega⟩
    obtain ⟨i, hi, hj⟩ := e
    exact hq i hi (by rw [hj]; exact ha)
theorem fl_still (x : Wd) (h : x.lasts = x.now) : x.fl.lasts = x.lasts ∧ x.fl.now = x.now := ⟨rfl, rfl⟩
theorem fe_still (x : Wd) (h : x.lasts = x.now) : x.fe.lasts = x.lasts ∧ x.fe.now = x.now := by
  unfold Wd.fe Wd.keep
  split
  · exact ⟨h.symm, rfl⟩
  · exact ⟨rfl, rfl⟩
theorem cr_still (l : List Nat) (ws : List Wd) (i : Nat) (x : Wd) (h : x.lasts = x.now) : (crF l ws i x).lasts = x.lasts ∧ (crF l ws i x).now = x.now := by
  unfold crF Wd.cr Wd.keep Wd.lose
  split
  · split
    · exact ⟨h.symm, rfl⟩
    · exact ⟨rfl, h⟩
  · exact ⟨rfl, rfl⟩
theorem QL.crash {at_ : Nat} {l : List Nat} {ag : List Bool} {ws : List Wd} (h : QL at_ l ag ws) (p : List Nat) (L : Nat) : QL at_ l ag (crashW p L ws) := h.turn _ (cr_still p ws) _ _
theorem QL.actS {at_ : Nat} {l : List Nat} {ag : List Bool} {s : DSt} (h : QL at_ l ag s.ws) (L : Nat) (kd a n : Int) (ws : List Wd) (hw : hasB L a n = true → QL at_ l ag ws) : QL at_ l ag (actS s L kd a n ws).ws := by
  unfold Proofs.Ythigknolpdohoaa.actS
  split
  · exact h
  · split
    · rename_i hb
      split
      · exact h.crash _ _
      · exact hw hb
    · exact h
theorem QL.flush {at_ : Nat} {l : List Nat} {ag : List Bool} {ws : List Wd} (h : QL at_ l ag ws) (a n : Nat) : QL at_ l ag (flushW a n ws) := by
  rw [flush_end]
  exact h.turn _ (fun _ => fl_still) _ _
theorem QL.stS {at_ : Nat} {l : List Nat} {ag : List Bool} {s : DSt} (h : QL at_ l ag s.ws) (o : O8) (h10 : o.kind ≠ 10) (hag : (o.kind = 0 ∨ o.kind = 1 ∨ o.kind = 2) → 0 ≤ o.at_ → o.at_ < 256 → ∀ i, i < o.b.length → o.at_.toNat + i < 256 → ag[(o.at_.toNat + i) / 8]? ≠ some false) : QL at_ l ag (stS o 4 s).ws := by
  unfold Proofs.Ythigknolpdohoaa.stS
  split
  · rename_i hk
    refine h.actS _ _ _ _ _ fun hb => ?_
    have h1 := of_decide_eq_true hb
    refine h.put _ _ fun i hi => hag hk (by omega) (by omega) i hi (by omega)
  · split
    · exact h.actS _ _ _ _ _ fun _ => h.flush _ _
    · split
      · exact h.actS _ _ _ _ _ fun _ => h.turn _ (fun _ => fe_still) _ _
      · split
        · exact h.actS _ _ _ _ _ fun _ => h
        · split
          · unfold DSt.crash; split
            · exact h
            · exact h.crash _ _
          · split
            · exact h
            · split
              · exact h
              · first
                | (rw [if_neg h10]; exact h)
                | exact h
/-- behind the store, its flush and its fence -/
theorem QL.init {ws : List Wd} (h : OkM ws) (at_ : Nat) (l : List Nat) (hb : ∀ v ∈ l, v < 256) (ag : List Bool) (hl : at_ + l.length ≤ 8 * ws.length) (m : Nat) (hm : ws.length ≤ m) : QL at_ l ag (turnW (fun _ => Wd.fe) 0 m (flushW at_ l.length (putW Wd.st at_ l ws))) := fun k v hk _ => by
  have hkl : k < l.length := (List.getElem?_eq_some_iff.mp hk).1
  have hj : (at_ + k) / 8 < ws.length := by omega
  obtain ⟨x, hx⟩ : ∃ x, ws[(at_ + k) / 8]? = some x := ⟨_, List.getElem?_eq_getElem hj⟩
  have hok2 : OkM (putW Wd.st at_ l ws) := putW_ok Wd.st (fun x hx f q hf hq => hx.st hf hq) at_ l hb h
  have hnow : (nowsL (putW Wd.st at_ l ws))[at_ + k]? = some v := by
    rw [nowsL_put h at_ l hl]
    show (splice (nowsL ws) at_ l)[at_ + k]? = some v
    rw [splice_get _ _ _ (by rw [nowsL_len h]; exact hl), if_pos (by omega), show at_ + k - at_ = k by omega, hk]
  have hnow2 : ((putW Wd.st at_ l ws)[(at_ + k) / 8]?).bind (fun y => y.now[(at_ + k) % 8]?) = some v := by
    rw [← flat8 Wd.now _ (fun y hy => (hok2 y hy).n) _ _ (by omega), show 8 * ((at_ + k) / 8) + (at_ + k) % 8 = at_ + k by omega]
    exact hnow
  rw [putW_at, hx, Option.map_some, Option.bind_some] at hnow2
  have hhi : hiF at_ (at_ + l.length) = 8 * ((at_ + l.length - 1) / 64 + 1) := by unfold hiF; rw [if_neg (by omega)]
  have e3 : (turnW (fun _ => Wd.fe) 0 m (flushW at_ l.length (putW Wd.st at_ l ws)))[(at_ + k) / 8]? = some ((putB Wd.st at_ l ((at_ + k) / 8) x).fl.fe) := by
    rw [turnW_at, flush_end, turnW_at, putW_at, hx, Option.map_some, Option.map_some, Option.map_some, if_pos ⟨by omega, by omega⟩, if_pos ⟨by omega, by omega⟩]
  obtain ⟨f, q, hp⟩ : ∃ f q, putB Wd.st at_ l ((at_ + k) / 8) x = Wd.st x f q := by
    unfold putB
    rw [if_pos (by omega)]
    exact ⟨_, _, rfl⟩
  rw [hp] at hnow2 e3
  exact ⟨_, e3, rfl, hnow2⟩
end
section
open Go.RowKit Go
set_option linter.unusedVariables false
set_option linter.unusedSimpArgs false
set_option maxRecDepth 100000
def agO (ag : List Bool) : Obj := .cells (bls ag).toArray 38 (0, 0)
theorem QL.image {at_ : Nat} {l : List Nat} {ag : List Bool} {ws : List Wd} (h : QL at_ l ag ws) (hok : OkM ws) {k v : Nat} (hk : l[k]? = some v) (ha : ag[(at_ + k) / 8]? = some false) : (lastsL ws)[at_ + k]? = some v := by
  obtain ⟨x, hx, _, h2⟩ := h k v hk ha
  have := flat8 Wd.lasts ws (fun y hy => (hok y hy).l) ((at_ + k) / 8) ((at_ + k) % 8) (by omega)
  rw [hx, Option.bind_some, h2, show 8 * ((at_ + k) / 8) + (at_ + k) % 8 = at_ + k by omega] at this
  exact this
theorem QL.crashS {at_ : Nat} {l : List Nat} {ag : List Bool} {s : DSt} (h : QL at_ l ag s.ws) (p : List Nat) (L : Nat) : QL at_ l ag (s.crash L p).ws := by
  unfold DSt.crash
  split
  · exact h
  · exact h.crash _ _
theorem cut_cut (o : O8) (h1 : o.b.length ≤ 150) (h2 : o.p.length ≤ 12) : o.cut = o := by
  obtain ⟨a, b, c, d, e⟩ := o
  unfold O8.cut
  congr 1
  · exact List.take_of_length_le h1
  · exact List.take_of_length_le h2
/-- a device that is on, and has no Arm, does what is in range -/
theorem on_act {s : DSt} {L : Nat} {kd a n : Int} {ws : List Wd} (ho : s.off = false) (hu : s.u = 0) (hb : hasB L a n = true) : actE s L a n = 0 ∧ actS s L kd a n ws = s.done kd a n ws := by
  unfold actE actS
  simp [ho, hu, hb]
/-- behind some calls of the second kind -/
def LaR (w : World) (g b : Nat) (r : RI) (n p : Nat) (l : List Nat) (ba : Nat) (iv : Value) (W : World) : Prop :=
  ∃ (i : Nat) (s t : DSt) (ag : List Bool), iv = .int .i64 (i : Int) ∧ i ≤ n ∧ i ≤ 15 ∧ ag.length = 32 ∧ Duo w W [(ba, agO ag)] g b 4 4 r s t ∧ s.k ≤ 18 + i ∧ t.k ≤ 15 + i ∧ QL p l ag s.ws
/-- while words are marked -/
def AgR (w : World) (z : List (Nat × Obj)) (g b : Nat) (r : RI) (s t : DSt) (ba nc a : Nat) (ag : List Bool) (kx : Value) (W : World) : Prop :=
  ∃ (k : Nat) (ag' : List Bool), kx = .int .i64 (k : Int) ∧ k ≤ nc ∧ ag'.length = 32 ∧ Duo w W ((ba, agO ag') :: z) g b 4 4 r s t ∧ (∀ j : Nat, ag'[j]? = some false → ag[j]? = some false) ∧ ∀ i, i < k → a + i < 256 → ag'[(a + i) / 8]? ≠ some false
theorem ag_cell {W : World} {ba q : Nat} {ag : List Bool} (h : W.heap[ba]? = some (agO ag)) {v : Bool} (hv : ag[q]? = some v) : W.cell? ⟨ba, q, none⟩ = some (.bool v) ∧ W.frozen? ⟨ba, q, none⟩ = false := by
  refine ⟨?_, blk_free h q⟩
  rw [blk_cell h q, List.getElem?_toArray]
  unfold bls
  rw [List.getElem?_map, hv]
  rfl
theorem ag_set {W : World} {ba q : Nat} {ag : List Bool} (h : W.heap[ba]? = some (agO ag)) (v : Bool) : (W.setCell ⟨ba, q, none⟩ (.bool v)).heap[ba]? = some (agO (ag.set q v)) := by
  have hs := (set_row h q (.bool v)).2
  rw [bls_set] at hs
  exact hs
theorem Duo.duoswap {w0 W : World} {x y : Nat × Obj} {z : List (Nat × Obj)} {g b L c : Nat} {r : RI} {s t : DSt} (h : Duo w0 W (x :: y :: z) g b L c r s t) : Duo w0 W (y :: x :: z) g b L c r s t :=
  h.sub fun u hu => by
    rcases List.mem_cons.1 hu with rfl | hu
    · exact List.mem_cons_of_mem _ (List.mem_cons_self ..)
    · rcases List.mem_cons.1 hu with rfl | hu
      · exact List.mem_cons_self ..
      · exact List.mem_cons_of_mem _ (List.mem_cons_of_mem _ hu)
end
section
open Go.RowKit Go
set_option linter.unusedVariables false
set_option linter.unusedSimpArgs false
set_option maxRecDepth 100000
set_option maxHeartbeats 16000000 in
theorem nvmLasts_0 (A0 A2 A3 : Option Addr) (n0 c0 n2 c2 n3 c3 : Nat) (z1 : Int) (l2 : List Nat) (os0 os3 : List O8) (w : World) (h0 : O8W w A0 n0 os0) (hn0 : n0 ≤ c0) (hc0 : c0 ≤ 9223372036854775807) (h2 : BS w w.heap.size A2 n2 c2 l2) (h3 : O8W w A3 n3 os3) (hn3 : n3 ≤ c3) (hc3 : c3 ≤ 9223372036854775807) (k2 : n2 ≤ 60) :
    Calls Try.prog 4 #[.slice A0 n0 c0, .int .i64 z1, .slice A2 n2 c2, .slice A3 n3 c3] w fun e w' => e = .returned (.bool true) ∧ Below w.heap.size w w' := by
  have H0 := Lib.hid h0
  have H3 := Lib.hid h3
  have HB : Hid (BS w w.heap.size A2 n2 c2 l2) := Lib.hid (h2)
  have HN : Hid (n2 ≤ 60) := Lib.hid (by omega)
  have i2 : ¬ (60 : Int) < (n2 : Int) := by omega
  obtain ⟨p, hp, hand⟩ := and127 z1
  have HNP : Hid (Calls Try.prog 7 #[.int .i64 4] w (New8M w 4)) := Lib.hid (new_M 4 (by omega) w)
  have HNR : Hid (∀ W, Calls Try.prog 8 #[.int .i64 4] W (RNewL W 4)) := Lib.hid (fun W => rnew_L 4 (by omega) W)
  clear h0 h2 h3
  go_enter Try.func4, Try.ntmps4
  go_wp2_with fail
  refine HNP.out.mono ?_
  rintro e w1 ⟨rfl, hd1⟩
  have HP1 := Lib.hid hd1
  clear hd1
  go_wp2_with fail
  refine (HNR.out w1).mono ?_
  rintro e w2 hr
  obtain ⟨r, rfl, hd⟩ := duo_new 4 (by omega) w w1 w2 ⟨rfl, HP1.out⟩ hr
  have HST0 : Hid (QuR w (w.heap.size + 1) w.heap.size 4 4 r n0 15 (.int .i64 0) w2) := Lib.hid ⟨0, _, rfl, by omega, hd, Nat.zero_le _, Nat.zero_le _, fun x hx => by cases hx⟩
  obtain ⟨g, hg⟩ : ∃ g, g = w.heap.size + 1 := ⟨_, rfl⟩
  obtain ⟨b, hb⟩ : ∃ b, b = w.heap.size := ⟨_, rfl⟩
  rw [← hg, ← hb] at HST0
  rw [← hg]
  clear hr hd HP1 HNP HNR hg hb
  go_wp2_with fail
  go_loopw [24] (fun iv wr => QuR w g b 4 4 r n0 15 iv wr) (fun iv _ => (n0 - (intOf iv).toNat))
  case atStart => exact HST0.out
  case round =>
    clear HST0
    obtain ⟨i, s, rfl, hi, hd, hk1, hk2, hia⟩ := hrel
    have HD := Lib.hid hd
    have HSK := Lib.hid (And.intro hk1 hk2)
    have HIA := Lib.hid hia
    by_cases hlt : i < n0
    · have hlti : (i : Int) < (n0 : Int) := by omega
      have hwi : IntKind.i64.wrap ((i : Int) + 1) = (i : Int) + 1 := IntWalk.i64_in _ ⟨by omega, by omega⟩
      obtain ⟨bo, oo, B1, e1, B2, e2, rfl, hb0, p0, p1, p2, p3, p4, hs1, hs2, hA1, hA2, hfit⟩ := H0.out.2 i hlt
      have HB := Lib.hid hd.under
      have q0 := (HB.out.cell (p := ⟨bo, oo + i * 5, none⟩) hb0).trans p0
      have q1' := (HB.out.cell (p := ⟨bo, oo + i * 5 + 1, none⟩) hb0).trans p1
      have q2' := (HB.out.cell (p := ⟨bo, oo + i * 5 + 2, none⟩) hb0).trans p2
      have q3 := (HB.out.cell (p := ⟨bo, oo + i * 5 + 3, none⟩) hb0).trans p3
      have q4 := (HB.out.cell (p := ⟨bo, oo + i * 5 + 4, none⟩) hb0).trans p4
      have hlt1 : bo < wr.heap.size := Nat.lt_of_lt_of_le hb0 HB.out.size
      have HST := Lib.hid (fun W (hW : Duo w W [] g b 4 4 r s s) => step_any w W [] g b 4 4 r s s hW (by have := HSK.out; omega) (by have := HSK.out; omega) (o8At os0 i) B1 B2 e1 e2 hs1 hs2 hA1 hA2 hfit)
      have HSB : Hid (stB (o8At os0 i).cut 4 s s = true) := Lib.hid (stB_same _ _ _)
      rw [HSB.out] at HST
      have HKI : Hid ((stS (o8At os0 i).cut 4 s).k ≤ s.k + 1 ∧ IntsA (stS (o8At os0 i).cut 4 s).al) := Lib.hid ⟨stS_k _ _ _, stS_ints _ _ _ HIA.out⟩
      clear p0 p1 p2 p3 p4 hs1 hs2 hA1 hA2 hfit
      generalize stS (o8At os0 i).cut 4 s = s' at *
      generalize (o8At os0 i).kind = kd at *
      generalize (o8At os0 i).at_ = atq at *
      generalize (o8At os0 i).n = mq at *
      generalize (o8At os0 i).b.length = nb at *
      generalize (o8At os0 i).p.length = np at *
      clear hd hk1 hk2 hia
      by_cases h20 : i < 15
      · have h20i : (i : Int) < 15 := by omega
        go_wp2_with fail
        refine (HST.out _ (HD.out.next ((Below.refl _ _).alloc (Nat.le_refl _) _))).mono ?_
        rintro e w3 ⟨rfl, hd3⟩
        have HG : Hid (QuR w g b 4 4 r n0 15 (.int .i64 ((i : Int) + 1)) w3) := Lib.hid ⟨i + 1, s', by simp, by omega, hd3, by have := HKI.out; have := HSK.out; omega, by have := HKI.out; have := HSK.out; omega, HKI.out.2⟩
        clear hd3
        go_wp2_with fail
        go_roundw
        case rel => exact HG.out
        case measure => simp [intOf]; omega
      · have h20i : ¬ (i : Int) < 15 := by omega
        have HG : Hid (QuR w g b 4 4 r n0 15 (.int .i64 ((i : Int) + 1)) (wr.alloc (.cells #[.int .i64 kd, .int .i64 atq, .int .i64 mq, .slice B1 nb e1, .slice B2 np e2] 30))) := Lib.hid ⟨i + 1, s, by simp, by omega, HD.out.next ((Below.refl _ _).alloc (Nat.le_refl _) _), by have := HSK.out; omega, HSK.out.2, HIA.out⟩
        go_wp2_with fail
        go_roundw
        case rel => exact HG.out
        case measure => simp [intOf]; omega
    · have hlti : ¬ (i : Int) < (n0 : Int) := by omega
      clear hd hk1 hk2 hia
      have HOS : Hid (OkM s.ws ∧ s.ws.length = 32) := Lib.hid (by
        obtain ⟨av, pv, kv, av2, pl, N, M, hp1, _⟩ := HD.out
        exact ⟨hp1.m.mem.1, hp1.m.len⟩)
      obtain ⟨s1, hs1⟩ : ∃ s1, s1 = s.on.done 1 (p : Int) (n2 : Int) (putW Wd.st p l2 s.ws) := ⟨_, rfl⟩
      obtain ⟨s2, hs2⟩ : ∃ s2, s2 = s1.done 2 (p : Int) (n2 : Int) (flushW p n2 s1.ws) := ⟨_, rfl⟩
      obtain ⟨s3, hs3⟩ : ∃ s3, s3 = s2.done 3 0 0 (turnW (fun _ => Wd.fe) 0 (8 * 4) s2.ws) := ⟨_, rfl⟩
      have hb9 : hasB 4 (p : Int) (n2 : Int) = true := by unfold hasB; rw [decide_eq_true_eq]; have := HN.out; omega
      have HP1 : Hid (∀ W av pv, PD W g b 4 4 av pv s.on → BS W W.heap.size A2 n2 c2 l2 → FarP n2 A2 g b av pv → Calls Try.prog 13 #[.pointer (some ⟨g, 0, none⟩), .int .i64 (p : Int), .slice A2 n2 c2] W (PTo W g b 4 4 av pv (.returned (.int .i64 0)) s1)) := Lib.hid (fun W av pv hpd hbs hfar => by
        have h := store_P g b 4 4 n2 c2 (p : Int) A2 l2 av pv s.on W hpd (by show s.k < _; have := HSK.out; omega) hbs hfar
        obtain ⟨q1, q2⟩ := on_act (s := s.on) (L := 4) (kd := 1) (a := (p : Int)) (n := ((n2 : Nat) : Int)) (ws := putW Wd.st (p : Int).toNat l2 s.on.ws) rfl rfl hb9
        rw [q1, q2] at h
        rw [hs1]
        exact h)
      have HP2 : Hid (∀ W av pv, PD W g b 4 4 av pv s1 → Calls Try.prog 14 #[.pointer (some ⟨g, 0, none⟩), .int .i64 (p : Int), .int .i64 (n2 : Int)] W (PTo W g b 4 4 av pv (.returned (.int .i64 0)) s2)) := Lib.hid (fun W av pv hpd => by
        have h := flush_P g b 4 4 (p : Int) (n2 : Int) av pv s1 W hpd (by rw [hs1]; show s.k + 1 < _; have := HSK.out; omega)
        obtain ⟨q1, q2⟩ := on_act (s := s1) (L := 4) (kd := 2) (a := (p : Int)) (n := (n2 : Int)) (ws := flushW (p : Int).toNat ((n2 : Int)).toNat s1.ws) (by rw [hs1]; rfl) (by rw [hs1]; rfl) hb9
        rw [q1, q2] at h
        rw [hs2]
        exact h)
      have HP3 : Hid (∀ W av pv, PD W g b 4 4 av pv s2 → Calls Try.prog 15 #[.pointer (some ⟨g, 0, none⟩)] W (PTo W g b 4 4 av pv (.returned (.int .i64 0)) s3)) := Lib.hid (fun W av pv hpd => by
        have h := fence_P g b 4 4 av pv s2 W hpd (by rw [hs2, hs1]; show s.k + 1 + 1 < _; have := HSK.out; omega)
        obtain ⟨q1, q2⟩ := on_act (s := s2) (L := 4) (kd := 3) (a := 0) (n := 0) (ws := turnW (fun _ => Wd.fe) 0 (8 * 4) s2.ws) (by rw [hs2, hs1]; rfl) (by rw [hs2, hs1]; rfl) (by decide)
        rw [q1, q2] at h
        rw [hs3]
        exact h)
      have HQ3 : Hid (∀ ag, QL p l2 ag s3.ws) := Lib.hid (fun ag => by
        have hll := HB.out.len
        have h := QL.init HOS.out.1 p l2 (bs_bytes HB.out) ag (by rw [hll, HOS.out.2]; have := HN.out; omega) (8 * 4) (by rw [HOS.out.2]; omega)
        rw [hll] at h
        rw [hs3, hs2, hs1]
        exact h)
      have HK3 : Hid (s3.k ≤ 18) := Lib.hid (by rw [hs3, hs2, hs1]; show s.k + 1 + 1 + 1 ≤ _; have := HSK.out; omega)
      clear hs1 hs2 hs3 hb9
      go_wp2_with fail
      refine (HD.out.doP (fun av pv hp hlt hz => on_P g b 4 4 av pv s _ hp)).mono ?_
      rintro e x1 ⟨rfl, hd⟩
      have HD1 := Lib.hid hd
      clear hd
      go_wp2_with fail
      refine (HD1.out.doP (fun av pv hp hlt hz => HP1.out _ av pv hp (bs_now HB.out HD1.out.under) (far_low HB.out (fun j q => (hlt j q).1)))).mono ?_
      rintro e x2 ⟨rfl, hd⟩
      have HD2 := Lib.hid hd
      clear hd
      go_wp2_with fail
      refine (HD2.out.doP (fun av pv hp hlt hz => HP2.out _ av pv hp)).mono ?_
      rintro e x3 ⟨rfl, hd⟩
      have HD3 := Lib.hid hd
      clear hd
      go_wp2_with fail
      refine (HD3.out.doP (fun av pv hp hlt hz => HP3.out _ av pv hp)).mono ?_
      rintro e x4 ⟨rfl, hd⟩
      have HD4 := Lib.hid hd
      clear hd HD HD1 HD2 HD3 HP1 HP2 HP3
      go_upto_region 14 with (fail)
      have HM4 := Lib.hid (HD4.out.mark (W' := x4.alloc (agO (List.replicate 32 false))) ((Below.refl _ _).alloc (Nat.le_refl _) _) (Nat.le_refl _) (heap_alloc_new _ _))
      have HST2 : Hid (LaR w g b r n3 p l2 x4.heap.size (.int .i64 0) (x4.alloc (agO (List.replicate 32 false)))) := Lib.hid ⟨0, s3, s, _, rfl, by omega, by omega, List.length_replicate .., HM4.out, HK3.out, by have := HSK.out; omega, HQ3.out _⟩
      have HSZ4 : Hid (w.heap.size ≤ x4.heap.size) := Lib.hid HD4.out.under.size
      go_wp2_with fail
      obtain ⟨ba, hba⟩ : ∃ ba, ba = x4.heap.size := ⟨_, rfl⟩
      rw [← hba] at HST2 HSZ4
      rw [← hba]
      clear HM4 hba HD4 HQ3 HK3
      go_loopw [68] (fun iv wr => LaR w g b r n3 p l2 ba iv wr) (fun iv _ => (n3 - (intOf iv).toNat))
      case atStart => exact HST2.out
      case round =>
        clear HST2 HSK HIA
        obtain ⟨i, sP, tR, ag, rfl, hi, hi15, hagl, hd, hk1, hk2, hql⟩ := hrel
        obtain ⟨wo, hwo⟩ : ∃ wo, wo = wr := ⟨_, rfl⟩
        rw [← hwo] at hd
        rw [← hwo]
        clear hwo
        have HD := Lib.hid hd
        have HKK : Hid (sP.k ≤ 33 ∧ tR.k ≤ 30 ∧ sP.k ≤ 18 + i ∧ tR.k ≤ 15 + i ∧ i ≤ 15) := Lib.hid (by omega)
        have HQL := Lib.hid hql
        have HAG := Lib.hid hagl
        by_cases hlt : i < n3
        · have hlti : (i : Int) < (n3 : Int) := by omega
          have hwi : IntKind.i64.wrap ((i : Int) + 1) = (i : Int) + 1 := IntWalk.i64_in _ ⟨by omega, by omega⟩
          obtain ⟨bo, oo, B1, e1, B2, e2, rfl, hb0, p0, p1, p2, p3, p4, hs1, hs2, hA1, hA2, hfit⟩ := H3.out.2 i hlt
          have HBU := Lib.hid hd.under
          have q0 := (HBU.out.cell (p := ⟨bo, oo + i * 5, none⟩) hb0).trans p0
          have q1' := (HBU.out.cell (p := ⟨bo, oo + i * 5 + 1, none⟩) hb0).trans p1
          have q2' := (HBU.out.cell (p := ⟨bo, oo + i * 5 + 2, none⟩) hb0).trans p2
          have q3 := (HBU.out.cell (p := ⟨bo, oo + i * 5 + 3, none⟩) hb0).trans p3
          have q4 := (HBU.out.cell (p := ⟨bo, oo + i * 5 + 4, none⟩) hb0).trans p4
          have hlt1 : bo < wo.heap.size := Nat.lt_of_lt_of_le hb0 HBU.out.size
          clear p0 p1 p2 p3 p4
          by_cases h15 : i < 15
          · have h15i : ¬ (15 : Int) ≤ (i : Int) := by omega
            clear hd hk1 hk2 hql hagl
            generalize (o8At os3 i).kind = kd at *
            generalize hatq : (o8At os3 i).at_ = atq at *
            generalize hmq : (o8At os3 i).n = mq at *
            obtain ⟨hf1, hf2⟩ := hfit
            rw [hatq] at hf1
            rw [hmq] at hf2
            generalize (o8At os3 i).b = lb at *
            generalize (o8At os3 i).p = lp at *
            clear hatq hmq
            obtain ⟨nb, hnb⟩ : ∃ nb, lb.length = nb := ⟨_, rfl⟩
            obtain ⟨np, hnp⟩ : ∃ np, lp.length = np := ⟨_, rfl⟩
            rw [hnb] at q3 hs1
            rw [hnp] at q4 hs2
            have HT1 : Hid (BS w w.heap.size B1 (min nb 150) e1 (lb.take 150)) := Lib.hid (cut_bsN 150 hs1)
            have HT2 : Hid (BS w w.heap.size B2 (min np 12) e2 (lp.take 12)) := Lib.hid (cut_bsN 12 hs2)
            have HCC := Lib.hid (fun W => cut8_any kd atq mq B1 B2 nb e1 np e2 hs1.cap.1 hs2.cap.1 W)
            have HLB : Hid (min nb 150 ≤ 150 ∧ min np 12 ≤ 12 ∧ (lb.take 150).length = min nb 150 ∧ (lp.take 12).length = min np 12) := Lib.hid ⟨Nat.min_le_right _ _, Nat.min_le_right _ _, HT1.out.len, HT2.out.len⟩
            have HFF := Lib.hid (And.intro hf1 hf2)
            have HNN := Lib.hid (And.intro hA1 hA2)
            clear hs1 hs2 hA1 hA2 hf1 hf2 hnb hnp
            go_wp2_with fail
            refine (HCC.out _).mono ?_
            rintro e wA ⟨rfl, hbA⟩
            have hXA : wA.heap[wo.heap.size]? = some (.cells #[.int .i64 kd, .int .i64 atq, .int .i64 mq, .slice B1 nb e1, .slice B2 np e2] 30 (0, 0)) := (hbA.block _ (by simp)).trans (heap_alloc_new _ _)
            have HBA : Hid (Below wo.heap.size wo wA) := Lib.hid (((Below.refl _ _).alloc (Nat.le_refl _) _).trans (hbA.mono (by simp)))
            clear hbA HCC
            have hI9 : (Try.prog.info? 30).map (·.size) = some (#[.int .i64 kd, .int .i64 atq, .int .i64 mq, .slice B1 (min nb 150) e1, .slice B2 (min np 12) e2] : Array Value).size := info_op8
            have hS9 : (#[.int .i64 kd, .int .i64 atq, .int .i64 mq, .slice B1 nb e1, .slice B2 np e2] : Array Value).size = (#[.int .i64 kd, .int .i64 atq, .int .i64 mq, .slice B1 (min nb 150) e1, .slice B2 (min np 12) e2] : Array Value).size := rfl
            have hO9 : (#[.int .i64 kd, .int .i64 atq, .int .i64 mq, .slice B1 (min nb 150) e1, .slice B2 (min np 12) e2] : Array Value).all (·.oneCell') = true := by simp [Value.oneCell']
            generalize lb.take 150 = l1 at *
            generalize lp.take 12 = lp1 at *
            generalize min nb 150 = nc at *
            generalize min np 12 = pc at *
            have HST := Lib.hid (fun (W : World) (z : List (Nat × Obj)) (hW : Duo w W z g b 4 4 r sP tR.on) => step_any w W z g b 4 4 r sP tR.on hW (by have := HKK.out; omega) (by show tR.k < _; have := HKK.out; omega) ⟨kd, atq, mq, l1, lp1⟩ B1 B2 e1 e2 (by show BS w w.heap.size B1 l1.length e1 l1; rw [HLB.out.2.2.1]; exact HT1.out) (by show BS w w.heap.size B2 lp1.length e2 lp1; rw [HLB.out.2.2.2]; exact HT2.out) HNN.out.1 HNN.out.2 HFF.out)
            rw [cut_cut ⟨kd, atq, mq, l1, lp1⟩ (by show l1.length ≤ 150; have := HLB.out; omega) (by show lp1.length ≤ 12; have := HLB.out; omega), show (O8.mk kd atq mq l1 lp1).b.length = nc from HLB.out.2.2.1, show (O8.mk kd atq mq l1 lp1).p.length = pc from HLB.out.2.2.2] at HST
            by_cases hk10 : kd = 10
            · subst hk10
              go_wp2_with (refine wpList_store_row rfl 30 (.tmp 15) (.tmp 76) rfl wo.heap.size #[.int .i64 10, .int .i64 atq, .int .i64 mq, .slice B1 nc e1, .slice B2 pc e2] rfl rfl 30 _ hXA hI9 hS9 hO9 ?_; obtain ⟨wB, hwB⟩ : ∃ wB, wB = wA.setRow wo.heap.size #[.int .i64 10, .int .i64 atq, .int .i64 mq, .slice B1 nc e1, .slice B2 pc e2] := ⟨_, rfl⟩; rw [← hwB]; have hY : wB.heap[wo.heap.size]? = some (.cells #[.int .i64 10, .int .i64 atq, .int .i64 mq, .slice B1 nc e1, .slice B2 pc e2] 30 (0, 0)) := (by rw [hwB]; exact setRow_heap _ _ _ _ _ _ hXA); have hWB : Below wo.heap.size wo wB := (by rw [hwB]; exact below_setRow HBA.out (Nat.le_refl _) _); have HDB := Lib.hid (HD.out.mark hWB (Nat.le_refl _) hY); clear hwB hXA hI9 hS9 hO9 hWB; have y0 : wB.cell? ⟨wo.heap.size, 0, none⟩ = some (.int .i64 10) := blk_cell hY 0; have y1 : wB.cell? ⟨wo.heap.size, 1, none⟩ = some (.int .i64 atq) := blk_cell hY 1; have y2 : wB.cell? ⟨wo.heap.size, 2, none⟩ = some (.int .i64 mq) := blk_cell hY 2; have y3 : wB.cell? ⟨wo.heap.size, 3, none⟩ = some (.slice B1 nc e1) := blk_cell hY 3; have y4 : wB.cell? ⟨wo.heap.size, 4, none⟩ = some (.slice B2 pc e2) := blk_cell hY 4; clear hY)
              have HG : Hid (LaR w g b r n3 p l2 ba (.int .i64 ((i : Int) + 1)) wB) := Lib.hid ⟨i + 1, sP, tR, ag, by simp, by omega, by omega, HAG.out, HDB.out.sub (by intro x hx; simp only [List.mem_cons, List.not_mem_nil, or_false] at hx ⊢; subst hx; simp), by have := HKK.out; omega, by have := HKK.out; omega, HQL.out⟩
              go_roundw
              case rel => exact HG.out
              case measure => simp [intOf]; omega
            · have hq10 : (kd == 10) = false := by rw [beq_eq_false_iff_ne]; exact hk10
              by_cases hca : kd < 0
              · have hna : ¬ (0 : Int) ≤ kd := by omega
                go_wp2_with (refine wpList_store_row rfl 30 (.tmp 15) (.tmp 76) rfl wo.heap.size #[.int .i64 kd, .int .i64 atq, .int .i64 mq, .slice B1 nc e1, .slice B2 pc e2] rfl rfl 30 _ hXA hI9 hS9 hO9 ?_; obtain ⟨wB, hwB⟩ : ∃ wB, wB = wA.setRow wo.heap.size #[.int .i64 kd, .int .i64 atq, .int .i64 mq, .slice B1 nc e1, .slice B2 pc e2] := ⟨_, rfl⟩; rw [← hwB]; have hY : wB.heap[wo.heap.size]? = some (.cells #[.int .i64 kd, .int .i64 atq, .int .i64 mq, .slice B1 nc e1, .slice B2 pc e2] 30 (0, 0)) := (by rw [hwB]; exact setRow_heap _ _ _ _ _ _ hXA); have hWB : Below wo.heap.size wo wB := (by rw [hwB]; exact below_setRow HBA.out (Nat.le_refl _) _); have HDB := Lib.hid (HD.out.mark hWB (Nat.le_refl _) hY); clear hwB hXA hI9 hS9 hO9 hWB; have y0 : wB.cell? ⟨wo.heap.size, 0, none⟩ = some (.int .i64 kd) := blk_cell hY 0; have y1 : wB.cell? ⟨wo.heap.size, 1, none⟩ = some (.int .i64 atq) := blk_cell hY 1; have y2 : wB.cell? ⟨wo.heap.size, 2, none⟩ = some (.int .i64 mq) := blk_cell hY 2; have y3 : wB.cell? ⟨wo.heap.size, 3, none⟩ = some (.slice B1 nc e1) := blk_cell hY 3; have y4 : wB.cell? ⟨wo.heap.size, 4, none⟩ = some (.slice B2 pc e2) := blk_cell hY 4; clear hY)
                refine (HDB.out.doR (fun N M kv av2 pl hp hlt hz => on_R r 4 N M kv av2 pl tR _ hp)).mono ?_
                rintro e v1 ⟨rfl, hd1⟩
                have hXv := hd1.has (q := wo.heap.size) (o := (.cells #[.int .i64 kd, .int .i64 atq, .int .i64 mq, .slice B1 nc e1, .slice B2 pc e2] 30 (0, 0))) (by simp)
                have z0 : v1.cell? ⟨wo.heap.size, 0, none⟩ = some (.int .i64 kd) := blk_cell hXv 0
                have z1' : v1.cell? ⟨wo.heap.size, 1, none⟩ = some (.int .i64 atq) := blk_cell hXv 1
                have z2 : v1.cell? ⟨wo.heap.size, 2, none⟩ = some (.int .i64 mq) := blk_cell hXv 2
                have z3 : v1.cell? ⟨wo.heap.size, 3, none⟩ = some (.slice B1 nc e1) := blk_cell hXv 3
                have z4 : v1.cell? ⟨wo.heap.size, 4, none⟩ = some (.slice B2 pc e2) := blk_cell hXv 4
                have HDV := Lib.hid hd1
                clear hd1 hXv
                go_wp2_with fail
                refine (HST.out v1 _ HDV.out).mono ?_
                rintro e v2 ⟨rfl, hd2⟩
                have HG : Hid (LaR w g b r n3 p l2 ba (.int .i64 ((i : Int) + 1)) v2) := Lib.hid ⟨i + 1, _, _, ag, by simp, by omega, by omega, HAG.out, hd2.sub (by intro x hx; simp only [List.mem_cons, List.not_mem_nil, or_false] at hx ⊢; subst hx; simp), by have := stS_k (O8.mk kd atq mq l1 lp1) 4 sP; have := HKK.out; omega, by have := stS_k (O8.mk kd atq mq l1 lp1) 4 tR.on; have := HKK.out; have : tR.on.k = tR.k := rfl; omega, HQL.out.stS ⟨kd, atq, mq, l1, lp1⟩ hk10 (fun ha hb hc => by exfalso; simp only at ha hb hc; omega)⟩
                clear hd2
                go_wp2_with fail
                go_roundw
                case rel => exact HG.out
                case measure => simp [intOf]; omega
              have hya : (0 : Int) ≤ kd := by omega
              by_cases hcb : 2 < kd
              · have hnb : ¬ kd ≤ (2 : Int) := by omega
                go_wp2_with (refine wpList_store_row rfl 30 (.tmp 15) (.tmp 76) rfl wo.heap.size #[.int .i64 kd, .int .i64 atq, .int .i64 mq, .slice B1 nc e1, .slice B2 pc e2] rfl rfl 30 _ hXA hI9 hS9 hO9 ?_; obtain ⟨wB, hwB⟩ : ∃ wB, wB = wA.setRow wo.heap.size #[.int .i64 kd, .int .i64 atq, .int .i64 mq, .slice B1 nc e1, .slice B2 pc e2] := ⟨_, rfl⟩; rw [← hwB]; have hY : wB.heap[wo.heap.size]? = some (.cells #[.int .i64 kd, .int .i64 atq, .int .i64 mq, .slice B1 nc e1, .slice B2 pc e2] 30 (0, 0)) := (by rw [hwB]; exact setRow_heap _ _ _ _ _ _ hXA); have hWB : Below wo.heap.size wo wB := (by rw [hwB]; exact below_setRow HBA.out (Nat.le_refl _) _); have HDB := Lib.hid (HD.out.mark hWB (Nat.le_refl _) hY); clear hwB hXA hI9 hS9 hO9 hWB; have y0 : wB.cell? ⟨wo.heap.size, 0, none⟩ = some (.int .i64 kd) := blk_cell hY 0; have y1 : wB.cell? ⟨wo.heap.size, 1, none⟩ = some (.int .i64 atq) := blk_cell hY 1; have y2 : wB.cell? ⟨wo.heap.size, 2, none⟩ = some (.int .i64 mq) := blk_cell hY 2; have y3 : wB.cell? ⟨wo.heap.size, 3, none⟩ = some (.slice B1 nc e1) := blk_cell hY 3; have y4 : wB.cell? ⟨wo.heap.size, 4, none⟩ = some (.slice B2 pc e2) := blk_cell hY 4; clear hY)
                refine (HDB.out.doR (fun N M kv av2 pl hp hlt hz => on_R r 4 N M kv av2 pl tR _ hp)).mono ?_
                rintro e v1 ⟨rfl, hd1⟩
                have hXv := hd1.has (q := wo.heap.size) (o := (.cells #[.int .i64 kd, .int .i64 atq, .int .i64 mq, .slice B1 nc e1, .slice B2 pc e2] 30 (0, 0))) (by simp)
                have z0 : v1.cell? ⟨wo.heap.size, 0, none⟩ = some (.int .i64 kd) := blk_cell hXv 0
                have z1' : v1.cell? ⟨wo.heap.size, 1, none⟩ = some (.int .i64 atq) := blk_cell hXv 1
                have z2 : v1.cell? ⟨wo.heap.size, 2, none⟩ = some (.int .i64 mq) := blk_cell hXv 2
                have z3 : v1.cell? ⟨wo.heap.size, 3, none⟩ = some (.slice B1 nc e1) := blk_cell hXv 3
                have z4 : v1.cell? ⟨wo.heap.size, 4, none⟩ = some (.slice B2 pc e2) := blk_cell hXv 4
                have HDV := Lib.hid hd1
                clear hd1 hXv
                go_wp2_with fail
                refine (HST.out v1 _ HDV.out).mono ?_
                rintro e v2 ⟨rfl, hd2⟩
                have HG : Hid (LaR w g b r n3 p l2 ba (.int .i64 ((i : Int) + 1)) v2) := Lib.hid ⟨i + 1, _, _, ag, by simp, by omega, by omega, HAG.out, hd2.sub (by intro x hx; simp only [List.mem_cons, List.not_mem_nil, or_false] at hx ⊢; subst hx; simp), by have := stS_k (O8.mk kd atq mq l1 lp1) 4 sP; have := HKK.out; omega, by have := stS_k (O8.mk kd atq mq l1 lp1) 4 tR.on; have := HKK.out; have : tR.on.k = tR.k := rfl; omega, HQL.out.stS ⟨kd, atq, mq, l1, lp1⟩ hk10 (fun ha hb hc => by exfalso; simp only at ha hb hc; omega)⟩
                clear hd2
                go_wp2_with fail
                go_roundw
                case rel => exact HG.out
                case measure => simp [intOf]; omega
              have hyb : kd ≤ (2 : Int) := by omega
              by_cases hcc : atq < 0
              · have hnc : ¬ (0 : Int) ≤ atq := by omega
                go_wp2_with (refine wpList_store_row rfl 30 (.tmp 15) (.tmp 76) rfl wo.heap.size #[.int .i64 kd, .int .i64 atq, .int .i64 mq, .slice B1 nc e1, .slice B2 pc e2] rfl rfl 30 _ hXA hI9 hS9 hO9 ?_; obtain ⟨wB, hwB⟩ : ∃ wB, wB = wA.setRow wo.heap.size #[.int .i64 kd, .int .i64 atq, .int .i64 mq, .slice B1 nc e1, .slice B2 pc e2] := ⟨_, rfl⟩; rw [← hwB]; have hY : wB.heap[wo.heap.size]? = some (.cells #[.int .i64 kd, .int .i64 atq, .int .i64 mq, .slice B1 nc e1, .slice B2 pc e2] 30 (0, 0)) := (by rw [hwB]; exact setRow_heap _ _ _ _ _ _ hXA); have hWB : Below wo.heap.size wo wB := (by rw [hwB]; exact below_setRow HBA.out (Nat.le_refl _) _); have HDB := Lib.hid (HD.out.mark hWB (Nat.le_refl _) hY); clear hwB hXA hI9 hS9 hO9 hWB; have y0 : wB.cell? ⟨wo.heap.size, 0, none⟩ = some (.int .i64 kd) := blk_cell hY 0; have y1 : wB.cell? ⟨wo.heap.size, 1, none⟩ = some (.int .i64 atq) := blk_cell hY 1; have y2 : wB.cell? ⟨wo.heap.size, 2, none⟩ = some (.int .i64 mq) := blk_cell hY 2; have y3 : wB.cell? ⟨wo.heap.size, 3, none⟩ = some (.slice B1 nc e1) := blk_cell hY 3; have y4 : wB.cell? ⟨wo.heap.size, 4, none⟩ = some (.slice B2 pc e2) := blk_cell hY 4; clear hY)
                refine (HDB.out.doR (fun N M kv av2 pl hp hlt hz => on_R r 4 N M kv av2 pl tR _ hp)).mono ?_
                rintro e v1 ⟨rfl, hd1⟩
                have hXv := hd1.has (q := wo.heap.size) (o := (.cells #[.int .i64 kd, .int .i64 atq, .int .i64 mq, .slice B1 nc e1, .slice B2 pc e2] 30 (0, 0))) (by simp)
                have z0 : v1.cell? ⟨wo.heap.size, 0, none⟩ = some (.int .i64 kd) := blk_cell hXv 0
                have z1' : v1.cell? ⟨wo.heap.size, 1, none⟩ = some (.int .i64 atq) := blk_cell hXv 1
                have z2 : v1.cell? ⟨wo.heap.size, 2, none⟩ = some (.int .i64 mq) := blk_cell hXv 2
                have z3 : v1.cell? ⟨wo.heap.size, 3, none⟩ = some (.slice B1 nc e1) := blk_cell hXv 3
                have z4 : v1.cell? ⟨wo.heap.size, 4, none⟩ = some (.slice B2 pc e2) := blk_cell hXv 4
                have HDV := Lib.hid hd1
                clear hd1 hXv
                go_wp2_with fail
                refine (HST.out v1 _ HDV.out).mono ?_
                rintro e v2 ⟨rfl, hd2⟩
                have HG : Hid (LaR w g b r n3 p l2 ba (.int .i64 ((i : Int) + 1)) v2) := Lib.hid ⟨i + 1, _, _, ag, by simp, by omega, by omega, HAG.out, hd2.sub (by intro x hx; simp only [List.mem_cons, List.not_mem_nil, or_false] at hx ⊢; subst hx; simp), by have := stS_k (O8.mk kd atq mq l1 lp1) 4 sP; have := HKK.out; omega, by have := stS_k (O8.mk kd atq mq l1 lp1) 4 tR.on; have := HKK.out; have : tR.on.k = tR.k := rfl; omega, HQL.out.stS ⟨kd, atq, mq, l1, lp1⟩ hk10 (fun ha hb hc => by exfalso; simp only at ha hb hc; omega)⟩
                clear hd2
                go_wp2_with fail
                go_roundw
                case rel => exact HG.out
                case measure => simp [intOf]; omega
              have hyc : (0 : Int) ≤ atq := by omega
              by_cases hcd : 256 ≤ atq
              · have hnd : ¬ atq < (256 : Int) := by omega
                go_wp2_with (refine wpList_store_row rfl 30 (.tmp 15) (.tmp 76) rfl wo.heap.size #[.int .i64 kd, .int .i64 atq, .int .i64 mq, .slice B1 nc e1, .slice B2 pc e2] rfl rfl 30 _ hXA hI9 hS9 hO9 ?_; obtain ⟨wB, hwB⟩ : ∃ wB, wB = wA.setRow wo.heap.size #[.int .i64 kd, .int .i64 atq, .int .i64 mq, .slice B1 nc e1, .slice B2 pc e2] := ⟨_, rfl⟩; rw [← hwB]; have hY : wB.heap[wo.heap.size]? = some (.cells #[.int .i64 kd, .int .i64 atq, .int .i64 mq, .slice B1 nc e1, .slice B2 pc e2] 30 (0, 0)) := (by rw [hwB]; exact setRow_heap _ _ _ _ _ _ hXA); have hWB : Below wo.heap.size wo wB := (by rw [hwB]; exact below_setRow HBA.out (Nat.le_refl _) _); have HDB := Lib.hid (HD.out.mark hWB (Nat.le_refl _) hY); clear hwB hXA hI9 hS9 hO9 hWB; have y0 : wB.cell? ⟨wo.heap.size, 0, none⟩ = some (.int .i64 kd) := blk_cell hY 0; have y1 : wB.cell? ⟨wo.heap.size, 1, none⟩ = some (.int .i64 atq) := blk_cell hY 1; have y2 : wB.cell? ⟨wo.heap.size, 2, none⟩ = some (.int .i64 mq) := blk_cell hY 2; have y3 : wB.cell? ⟨wo.heap.size, 3, none⟩ = some (.slice B1 nc e1) := blk_cell hY 3; have y4 : wB.cell? ⟨wo.heap.size, 4, none⟩ = some (.slice B2 pc e2) := blk_cell hY 4; clear hY)
                refine (HDB.out.doR (fun N M kv av2 pl hp hlt hz => on_R r 4 N M kv av2 pl tR _ hp)).mono ?_
                rintro e v1 ⟨rfl, hd1⟩
                have hXv := hd1.has (q := wo.heap.size) (o := (.cells #[.int .i64 kd, .int .i64 atq, .int .i64 mq, .slice B1 nc e1, .slice B2 pc e2] 30 (0, 0))) (by simp)
                have z0 : v1.cell? ⟨wo.heap.size, 0, none⟩ = some (.int .i64 kd) := blk_cell hXv 0
                have z1' : v1.cell? ⟨wo.heap.size, 1, none⟩ = some (.int .i64 atq) := blk_cell hXv 1
                have z2 : v1.cell? ⟨wo.heap.size, 2, none⟩ = some (.int .i64 mq) := blk_cell hXv 2
                have z3 : v1.cell? ⟨wo.heap.size, 3, none⟩ = some (.slice B1 nc e1) := blk_cell hXv 3
                have z4 : v1.cell? ⟨wo.heap.size, 4, none⟩ = some (.slice B2 pc e2) := blk_cell hXv 4
                have HDV := Lib.hid hd1
                clear hd1 hXv
                go_wp2_with fail
                refine (HST.out v1 _ HDV.out).mono ?_
                rintro e v2 ⟨rfl, hd2⟩
                have HG : Hid (LaR w g b r n3 p l2 ba (.int .i64 ((i : Int) + 1)) v2) := Lib.hid ⟨i + 1, _, _, ag, by simp, by omega, by omega, HAG.out, hd2.sub (by intro x hx; simp only [List.mem_cons, List.not_mem_nil, or_false] at hx ⊢; subst hx; simp), by have := stS_k (O8.mk kd atq mq l1 lp1) 4 sP; have := HKK.out; omega, by have := stS_k (O8.mk kd atq mq l1 lp1) 4 tR.on; have := HKK.out; have : tR.on.k = tR.k := rfl; omega, HQL.out.stS ⟨kd, atq, mq, l1, lp1⟩ hk10 (fun ha hb hc => by exfalso; simp only at ha hb hc; omega)⟩
                clear hd2
                go_wp2_with fail
                go_roundw
                case rel => exact HG.out
                case measure => simp [intOf]; omega
              have hyd : atq < (256 : Int) := by omega
              obtain ⟨a0, ha0⟩ : ∃ a0 : Nat, atq = (a0 : Int) := ⟨atq.toNat, by omega⟩
              subst ha0
              have ha256 : a0 < 256 := by omega
              have hnc9 : nc ≤ 150 := HLB.out.1
              go_wp2_with (refine wpList_store_row rfl 30 (.tmp 15) (.tmp 76) rfl wo.heap.size #[.int .i64 kd, .int .i64 (a0 : Int), .int .i64 mq, .slice B1 nc e1, .slice B2 pc e2] rfl rfl 30 _ hXA hI9 hS9 hO9 ?_; obtain ⟨wB, hwB⟩ : ∃ wB, wB = wA.setRow wo.heap.size #[.int .i64 kd, .int .i64 (a0 : Int), .int .i64 mq, .slice B1 nc e1, .slice B2 pc e2] := ⟨_, rfl⟩; rw [← hwB]; have hY : wB.heap[wo.heap.size]? = some (.cells #[.int .i64 kd, .int .i64 (a0 : Int), .int .i64 mq, .slice B1 nc e1, .slice B2 pc e2] 30 (0, 0)) := (by rw [hwB]; exact setRow_heap _ _ _ _ _ _ hXA); have hWB : Below wo.heap.size wo wB := (by rw [hwB]; exact below_setRow HBA.out (Nat.le_refl _) _); have HDB := Lib.hid (HD.out.mark hWB (Nat.le_refl _) hY); clear hwB hXA hI9 hS9 hO9 hWB; have y0 : wB.cell? ⟨wo.heap.size, 0, none⟩ = some (.int .i64 kd) := blk_cell hY 0; have y1 : wB.cell? ⟨wo.heap.size, 1, none⟩ = some (.int .i64 (a0 : Int)) := blk_cell hY 1; have y2 : wB.cell? ⟨wo.heap.size, 2, none⟩ = some (.int .i64 mq) := blk_cell hY 2; have y3 : wB.cell? ⟨wo.heap.size, 3, none⟩ = some (.slice B1 nc e1) := blk_cell hY 3; have y4 : wB.cell? ⟨wo.heap.size, 4, none⟩ = some (.slice B2 pc e2) := blk_cell hY 4; clear hY)
              have HSA : Hid (AgR w [(wo.heap.size, (.cells #[.int .i64 kd, .int .i64 (a0 : Int), .int .i64 mq, .slice B1 nc e1, .slice B2 pc e2] 30 (0, 0)))] g b r sP tR ba nc a0 ag (.int .i64 0) wB) := Lib.hid ⟨0, ag, rfl, by omega, HAG.out, HDB.out.duoswap, fun j h => h, fun i hi => absurd hi (by omega)⟩
              have hbaw : ba < wo.heap.size := blk_lt' (HD.out.has (List.mem_cons_self ..))
              have HBW := Lib.hid hbaw
              clear y0 y1 y2 y3 y4 hbaw
              go_loopw [101] (fun kx wr => AgR w [(wo.heap.size, (.cells #[.int .i64 kd, .int .i64 (a0 : Int), .int .i64 mq, .slice B1 nc e1, .slice B2 pc e2] 30 (0, 0)))] g b r sP tR ba nc a0 ag kx wr) (fun kx _ => (nc - (intOf kx).toNat))
              case atStart => exact HSA.out
              case round =>
                clear HSA
                obtain ⟨k, ag', rfl, hkn, hagl', hdk, hmono, hmark⟩ := hrel
                have HDK := Lib.hid hdk
                have hXk := hdk.has (List.mem_cons_of_mem _ (List.mem_cons_self ..))
                have u0 : wr.cell? ⟨wo.heap.size, 0, none⟩ = some (.int .i64 kd) := blk_cell hXk 0
                have u1 : wr.cell? ⟨wo.heap.size, 1, none⟩ = some (.int .i64 (a0 : Int)) := blk_cell hXk 1
                have u2 : wr.cell? ⟨wo.heap.size, 2, none⟩ = some (.int .i64 mq) := blk_cell hXk 2
                have u3 : wr.cell? ⟨wo.heap.size, 3, none⟩ = some (.slice B1 nc e1) := blk_cell hXk 3
                have u4 : wr.cell? ⟨wo.heap.size, 4, none⟩ = some (.slice B2 pc e2) := blk_cell hXk 4
                have HMK := Lib.hid (And.intro hagl' (And.intro hmono hmark))
                by_cases hkl : k < nc
                · have hkli : (k : Int) < (nc : Int) := by omega
                  have hwk : IntKind.i64.wrap ((k : Int) + 1) = (k : Int) + 1 := IntWalk.i64_in _ ⟨by omega, by omega⟩
                  obtain ⟨pk, hpk⟩ : ∃ pk, pk = a0 + k := ⟨_, rfl⟩
                  have hwp : IntKind.i64.wrap ((a0 : Int) + (k : Int)) = (pk : Int) := by rw [show (a0 : Int) + (k : Int) = (pk : Int) by omega]; exact IntWalk.i64_in _ ⟨by omega, by omega⟩
                  by_cases h256 : pk < 256
                  · have h256i : (pk : Int) < 256 := by omega
                    obtain ⟨q, hq⟩ : ∃ q, q = pk / 8 := ⟨_, rfl⟩
                    have hdd : (pk : Int) / 8 = (q : Int) := by omega
                    have hdt : (pk : Int).tdiv 8 = (q : Int) := by rw [hq]; exact Int.ofNat_tdiv pk 8
                    have hwq : IntKind.i64.wrap (q : Int) = (q : Int) := IntWalk.i64_in _ ⟨by omega, by omega⟩
                    have hq32 : (q : Int) < 32 := by omega
                    obtain ⟨av9, hav⟩ : ∃ a, ag'[q]? = some a := ⟨_, List.getElem?_eq_getElem (by omega)⟩
                    obtain ⟨hagc, hagf⟩ := ag_cell (hdk.has (List.mem_cons_self ..)) hav
                    have HG : Hid (AgR w [(wo.heap.size, (.cells #[.int .i64 kd, .int .i64 (a0 : Int), .int .i64 mq, .slice B1 nc e1, .slice B2 pc e2] 30 (0, 0)))] g b r sP tR ba nc a0 ag (.int .i64 ((k : Int) + 1)) (wr.setCell ⟨ba, q, none⟩ (.bool true))) := Lib.hid (by
                      refine ⟨k + 1, ag'.set q true, by simp, by omega, by rw [List.length_set]; exact hagl', hdk.turn (fun q' o' hm => ?_) HSZ4.out (Turns.set _ _ rfl) (ag_set (hdk.has (List.mem_cons_self ..)) true), fun j hj => hmono j ?_, fun j hj hj2 => ?_⟩
                      · simp only [List.mem_cons, List.not_mem_nil, or_false, Prod.mk.injEq] at hm
                        have := HBW.out
                        omega
                      · by_cases e : j = q
                        · subst e
                          rw [List.getElem?_set_self (by omega)] at hj
                          cases hj
                        · rwa [List.getElem?_set_ne (fun x => e x.symm)] at hj
                      · by_cases e : (a0 + j) / 8 = q
                        · rw [e, List.getElem?_set_self (by omega)]
                          intro h; cases h
                        · rw [List.getElem?_set_ne (fun x => e x.symm)]
                          exact hmark j (by rcases Nat.lt_or_ge j k with h | h; exact h; exfalso; have : j = k := by omega
                                            subst this; exact e (by rw [hq, hpk])) hj2)
                    clear hdk hXk hmono hmark hq hpk hav
                    go_wp2_with fail
                    go_roundw
                    case rel => exact HG.out
                    case measure => simp [intOf]; omega
                  · have h256i : ¬ (pk : Int) < 256 := by omega
                    have HG : Hid (AgR w [(wo.heap.size, (.cells #[.int .i64 kd, .int .i64 (a0 : Int), .int .i64 mq, .slice B1 nc e1, .slice B2 pc e2] 30 (0, 0)))] g b r sP tR ba nc a0 ag (.int .i64 ((k : Int) + 1)) wr) := Lib.hid ⟨k + 1, ag', by simp, by omega, hagl', hdk, hmono, fun j hj hj2 => hmark j (by rcases Nat.lt_or_ge j k with h | h; exact h; exfalso; omega) hj2⟩
                    clear hdk hXk hmono hmark hpk
                    go_wp2_with fail
                    go_roundw
                    case rel => exact HG.out
                    case measure => simp [intOf]; omega
                · have hkli : ¬ (k : Int) < (nc : Int) := by omega
                  obtain rfl : k = nc := by omega
                  clear hdk hXk hmono hmark
                  go_wp2_with fail
                  refine (HDK.out.doR (fun N M kv av2 pl hp hlt hz => on_R r 4 N M kv av2 pl tR _ hp)).mono ?_
                  rintro e v1 ⟨rfl, hd1⟩
                  have hXv := hd1.has (q := wo.heap.size) (o := (.cells #[.int .i64 kd, .int .i64 (a0 : Int), .int .i64 mq, .slice B1 k e1, .slice B2 pc e2] 30 (0, 0))) (by simp)
                  have z0 : v1.cell? ⟨wo.heap.size, 0, none⟩ = some (.int .i64 kd) := blk_cell hXv 0
                  have z1' : v1.cell? ⟨wo.heap.size, 1, none⟩ = some (.int .i64 (a0 : Int)) := blk_cell hXv 1
                  have z2 : v1.cell? ⟨wo.heap.size, 2, none⟩ = some (.int .i64 mq) := blk_cell hXv 2
                  have z3 : v1.cell? ⟨wo.heap.size, 3, none⟩ = some (.slice B1 k e1) := blk_cell hXv 3
                  have z4 : v1.cell? ⟨wo.heap.size, 4, none⟩ = some (.slice B2 pc e2) := blk_cell hXv 4
                  have HDV := Lib.hid hd1
                  clear hd1 hXv
                  go_wp2_with fail
                  refine (HST.out v1 _ HDV.out).mono ?_
                  rintro e v2 ⟨rfl, hd2⟩
                  have HG : Hid (LaR w g b r n3 p l2 ba (.int .i64 ((i : Int) + 1)) v2) := Lib.hid ⟨i + 1, _, _, ag', by simp, by omega, by omega, HMK.out.1, hd2.sub (by intro x hx; simp only [List.mem_cons, List.not_mem_nil, or_false] at hx ⊢; subst hx; simp), by have := stS_k (O8.mk kd (a0 : Int) mq l1 lp1) 4 sP; have := HKK.out; omega, by have := stS_k (O8.mk kd (a0 : Int) mq l1 lp1) 4 tR.on; have := HKK.out; have : tR.on.k = tR.k := rfl; omega, (HQL.out.mono HMK.out.2.1).stS ⟨kd, (a0 : Int), mq, l1, lp1⟩ hk10 (fun ha hb hc j hj hj2 => HMK.out.2.2 j (by have := HLB.out.2.2.1; simp only at hj; omega) hj2)⟩
                  clear hd2
                  go_wp2_with fail
                  go_roundw
                  case rel => exact HG.out
                  case measure => simp [intOf]; omega
          · have h15i : (15 : Int) ≤ (i : Int) := by omega
            obtain ⟨kd, hkd⟩ : ∃ kd, (o8At os3 i).kind = kd := ⟨_, rfl⟩
            rw [hkd] at q0
            generalize (o8At os3 i).at_ = atq at *
            generalize (o8At os3 i).n = mq at *
            generalize (o8At os3 i).b.length = nb at *
            generalize (o8At os3 i).p.length = np at *
            obtain ⟨wz, hwz⟩ : ∃ wz, wz = wo.alloc (.cells #[.int .i64 kd, .int .i64 atq, .int .i64 mq, .slice B1 nb e1, .slice B2 np e2] 30) := ⟨_, rfl⟩
            have HDZ : Hid (Duo w wz _ g b 4 4 r sP tR) := Lib.hid (by rw [hwz]; exact hd.next ((Below.refl _ _).alloc (Nat.le_refl _) _))
            clear hd hk1 hk2 hql hagl hs1 hs2 hA1 hA2 hfit hkd
            go_upto_region 31 with (fail)
            rw [← hwz]
            clear hwz q0 q1' q2' q3 q4
            have hbl : b < wz.heap.size := by
              obtain ⟨av, pv, kv, av2, pl, N9, M9, hp1, _⟩ := HDZ.out
              exact hp1.m.mem.lt
            have HBL := Lib.hid hbl
            clear hbl
            go_wp2_with fail
            refine ((HDZ.out.next ((Below.refl _ _).alloc (Nat.le_refl _) _)).doP (fun av pv hp hlt hz => crash_P g b 4 4 1 1 (some ⟨wz.heap.size, 0, none⟩) [0] av pv sP _ hp (aw_bs wz [0] 1 (0, 0) rfl (by omega) (b_of _ (fun v hv => by simp at hv; omega)) _ rfl) (fun _ ad e => by injection e with e; subst e; show wz.heap.size ≠ b; have := HBL.out; omega))).mono ?_
            rintro e v1 ⟨rfl, hd1⟩
            obtain ⟨sC, hsC⟩ : ∃ sC, sC = sP.crash 4 [0] := ⟨_, rfl⟩
            rw [← hsC] at hd1
            have HQC : Hid (QL p l2 ag sC.ws) := Lib.hid (by rw [hsC]; exact HQL.out.crashS _ _)
            clear hsC
            have HDC := Lib.hid hd1
            obtain ⟨av, pv, kv, av2, pl, N9, M9, hp1, _⟩ := hd1
            have HOKC : Hid (OkM sC.ws ∧ (lastsL sC.ws).length = 256) := Lib.hid ⟨hp1.m.mem.1, by rw [lastsL_len hp1.m.mem.1, hp1.m.len]⟩
            have HIM := Lib.hid (image_L g b 4 4 sC.k sC.off av pv sC.al _ sC.ws v1 hp1.m)
            clear hp1
            go_wp2_with fail
            refine HIM.out.mono ?_
            rintro e v2 ⟨vI, rfl, hoI, hbI⟩
            have HDI := Lib.hid (HDC.out.next hbI)
            obtain ⟨A9, c9, rfl, hs9⟩ := hoI.bs (fun j => by
              by_cases hj : j < (lastsL sC.ws).length
              · rw [List.getD_eq_getElem?_getD, List.getElem?_eq_getElem hj]; exact HOKC.out.1.lasts _ (List.getElem_mem hj)
              · rw [List.getD_eq_getElem?_getD, List.getElem?_eq_none (by omega)]; simp)
            rw [HOKC.out.2] at hs9 ⊢
            have HS9 := Lib.hid hs9
            clear hoI hbI hs9 HIM
            go_wp2_with fail
            go_loopw [133] (fun iv wr => ∃ k : Nat, iv = .int .i64 (k : Int) ∧ k ≤ n2 ∧ wr = v2) (fun iv _ => (n2 - (intOf iv).toNat))
            case atStart => exact ⟨0, rfl, by omega, rfl⟩
            case round =>
              obtain ⟨k, rfl, hkn, rfl⟩ := hrel
              by_cases hk : k < n2
              · have hki : (k : Int) < (n2 : Int) := by omega
                have hn60 := HN.out
                have hwk : IntKind.i64.wrap ((k : Int) + 1) = (k : Int) + 1 := IntWalk.i64_in _ ⟨by omega, by omega⟩
                obtain ⟨xb, xo, hA, hxb, hxc⟩ := HB.out.at_ (show 0 < n2 by omega)
                have hU := HDI.out.under
                have hbc : wr.cell? ⟨xb, xo + k, none⟩ = some (.int .u8 (((l2).getD k 0 : Nat) : Int)) := (hU.cell (p := ⟨xb, xo + k, none⟩) hxb).trans (hxc k hk)
                have hxbl : xb < wr.heap.size := Nat.lt_of_lt_of_le hxb hU.size
                subst hA
                obtain ⟨v, hv⟩ : ∃ v, v = (l2).getD k 0 := ⟨_, rfl⟩
                have hlk : (l2)[k]? = some v := by
                  have hll := HB.out.len
                  rw [hv, List.getD_eq_getElem?_getD, List.getElem?_eq_getElem (by omega)]
                  rfl
                rw [← hv] at hbc
                obtain ⟨pk, hpk⟩ : ∃ pk, pk = p + k := ⟨_, rfl⟩
                obtain ⟨q, hq⟩ : ∃ q, q = pk / 8 := ⟨_, rfl⟩
                have hwp : IntKind.i64.wrap ((p : Int) + (k : Int)) = (pk : Int) := by rw [show (p : Int) + (k : Int) = (pk : Int) by omega]; exact IntWalk.i64_in _ ⟨by omega, by omega⟩
                have hdd : (pk : Int) / 8 = (q : Int) := by omega
                have hdt : (pk : Int).tdiv 8 = (q : Int) := by rw [hq]; exact Int.ofNat_tdiv pk 8
                have hwq : IntKind.i64.wrap (q : Int) = (q : Int) := IntWalk.i64_in _ ⟨by omega, by omega⟩
                have hq32 : (q : Int) < 32 := by omega
                have hp256 : (pk : Int) < 256 := by omega
                obtain ⟨av9, hav⟩ : ∃ a, ag[q]? = some a := ⟨_, List.getElem?_eq_getElem (by rw [HAG.out]; omega)⟩
                have hagc := (ag_cell (HDI.out.has (List.mem_cons_self ..)) hav).1
                obtain ⟨xb2, xo2, hA9, hxb2, hxc2⟩ := HS9.out.at_ (show 0 < 256 by omega)
                have hic : wr.cell? ⟨xb2, xo2 + pk, none⟩ = some (.int .u8 (((lastsL sC.ws).getD pk 0 : Nat) : Int)) := hxc2 pk (by omega)
                subst hA9
                have HG : Hid (∃ k' : Nat, Value.int .i64 ((k : Int) + 1) = .int .i64 (k' : Int) ∧ k' ≤ n2 ∧ True) := Lib.hid ⟨k + 1, by simp, by omega, trivial⟩
                cases av9
                · have him : (lastsL sC.ws).getD pk 0 = v := by
                    rw [List.getD_eq_getElem?_getD, hpk, HQC.out.image HOKC.out.1 hlk (by rw [← hpk, ← hq]; exact hav)]
                    rfl
                  rw [him] at hic
                  clear hU hxc hxc2 hv hlk hpk hq hav him hn60
                  go_wp2_with fail
                  go_roundw
                  case rel => exact HG.out
                  case measure => simp [intOf]; omega
                · clear hU hxc hxc2 hv hlk hpk hq hav hic hn60
                  go_wp2_with fail
                  go_roundw
                  case rel => exact HG.out
                  case measure => simp [intOf]; omega
              · have hki : ¬ (k : Int) < (n2 : Int) := by omega
                have HAW := Lib.hid (awake8_any wr)
                have HU := Lib.hid HDI.out.under
                go_wp2_with fail
                refine HAW.out.mono ?_
                rintro e v3 ⟨rfl, hb3⟩
                have HB3 : Hid (Below w.heap.size w v3) := Lib.hid (HU.out.trans (hb3.mono HU.out.size))
                clear hb3
                go_wp2
                go_ret
                exact ⟨rfl, HB3.out⟩
        · have hlti : ¬ (i : Int) < (n3 : Int) := by omega
          clear hd hk1 hk2 hql hagl
          have hbl : b < wo.heap.size := by
            obtain ⟨av, pv, kv, av2, pl, N9, M9, hp1, _⟩ := HD.out
            exact hp1.m.mem.lt
          have HBL := Lib.hid hbl
          clear hbl
          go_wp2_with fail
          refine ((HD.out.next ((Below.refl _ _).alloc (Nat.le_refl _) _)).doP (fun av pv hp hlt hz => crash_P g b 4 4 1 1 (some ⟨wo.heap.size, 0, none⟩) [0] av pv sP _ hp (aw_bs wo [0] 1 (0, 0) rfl (by omega) (b_of _ (fun v hv => by simp at hv; omega)) _ rfl) (fun _ ad e => by injection e with e; subst e; show wo.heap.size ≠ b; have := HBL.out; omega))).mono ?_
          rintro e v1 ⟨rfl, hd1⟩
          obtain ⟨sC, hsC⟩ : ∃ sC, sC = sP.crash 4 [0] := ⟨_, rfl⟩
          rw [← hsC] at hd1
          have HQC : Hid (QL p l2 ag sC.ws) := Lib.hid (by rw [hsC]; exact HQL.out.crashS _ _)
          clear hsC
          have HDC := Lib.hid hd1
          obtain ⟨av, pv, kv, av2, pl, N9, M9, hp1, _⟩ := hd1
          have HOKC : Hid (OkM sC.ws ∧ (lastsL sC.ws).length = 256) := Lib.hid ⟨hp1.m.mem.1, by rw [lastsL_len hp1.m.mem.1, hp1.m.len]⟩
          have HIM := Lib.hid (image_L g b 4 4 sC.k sC.off av pv sC.al _ sC.ws v1 hp1.m)
          clear hp1
          go_wp2_with fail
          refine HIM.out.mono ?_
          rintro e v2 ⟨vI, rfl, hoI, hbI⟩
          have HDI := Lib.hid (HDC.out.next hbI)
          obtain ⟨A9, c9, rfl, hs9⟩ := hoI.bs (fun j => by
            by_cases hj : j < (lastsL sC.ws).length
            · rw [List.getD_eq_getElem?_getD, List.getElem?_eq_getElem hj]; exact HOKC.out.1.lasts _ (List.getElem_mem hj)
            · rw [List.getD_eq_getElem?_getD, List.getElem?_eq_none (by omega)]; simp)
          rw [HOKC.out.2] at hs9 ⊢
          have HS9 := Lib.hid hs9
          clear hoI hbI hs9 HIM
          go_wp2_with fail
          go_loopw [133] (fun iv wr => ∃ k : Nat, iv = .int .i64 (k : Int) ∧ k ≤ n2 ∧ wr = v2) (fun iv _ => (n2 - (intOf iv).toNat))
          case atStart => exact ⟨0, rfl, by omega, rfl⟩
          case round =>
            obtain ⟨k, rfl, hkn, rfl⟩ := hrel
            by_cases hk : k < n2
            · have hki : (k : Int) < (n2 : Int) := by omega
              have hn60 := HN.out
              have hwk : IntKind.i64.wrap ((k : Int) + 1) = (k : Int) + 1 := IntWalk.i64_in _ ⟨by omega, by omega⟩
              obtain ⟨xb, xo, hA, hxb, hxc⟩ := HB.out.at_ (show 0 < n2 by omega)
              have hU := HDI.out.under
              have hbc : wr.cell? ⟨xb, xo + k, none⟩ = some (.int .u8 (((l2).getD k 0 : Nat) : Int)) := (hU.cell (p := ⟨xb, xo + k, none⟩) hxb).trans (hxc k hk)
              have hxbl : xb < wr.heap.size := Nat.lt_of_lt_of_le hxb hU.size
              subst hA
              obtain ⟨v, hv⟩ : ∃ v, v = (l2).getD k 0 := ⟨_, rfl⟩
              have hlk : (l2)[k]? = some v := by
                have hll := HB.out.len
                rw [hv, List.getD_eq_getElem?_getD, List.getElem?_eq_getElem (by omega)]
                rfl
              rw [← hv] at hbc
              obtain ⟨pk, hpk⟩ : ∃ pk, pk = p + k := ⟨_, rfl⟩
              obtain ⟨q, hq⟩ : ∃ q, q = pk / 8 := ⟨_, rfl⟩
              have hwp : IntKind.i64.wrap ((p : Int) + (k : Int)) = (pk : Int) := by rw [show (p : Int) + (k : Int) = (pk : Int) by omega]; exact IntWalk.i64_in _ ⟨by omega, by omega⟩
              have hdd : (pk : Int) / 8 = (q : Int) := by omega
              have hdt : (pk : Int).tdiv 8 = (q : Int) := by rw [hq]; exact Int.ofNat_tdiv pk 8
              have hwq : IntKind.i64.wrap (q : Int) = (q : Int) := IntWalk.i64_in _ ⟨by omega, by omega⟩
              have hq32 : (q : Int) < 32 := by omega
              have hp256 : (pk : Int) < 256 := by omega
              obtain ⟨av9, hav⟩ : ∃ a, ag[q]? = some a := ⟨_, List.getElem?_eq_getElem (by rw [HAG.out]; omega)⟩
              have hagc := (ag_cell (HDI.out.has (List.mem_cons_self ..)) hav).1
              obtain ⟨xb2, xo2, hA9, hxb2, hxc2⟩ := HS9.out.at_ (show 0 < 256 by omega)
              have hic : wr.cell? ⟨xb2, xo2 + pk, none⟩ = some (.int .u8 (((lastsL sC.ws).getD pk 0 : Nat) : Int)) := hxc2 pk (by omega)
              subst hA9
              have HG : Hid (∃ k' : Nat, Value.int .i64 ((k : Int) + 1) = .int .i64 (k' : Int) ∧ k' ≤ n2 ∧ True) := Lib.hid ⟨k + 1, by simp, by omega, trivial⟩
              cases av9
              · have him : (lastsL sC.ws).getD pk 0 = v := by
                  rw [List.getD_eq_getElem?_getD, hpk, HQC.out.image HOKC.out.1 hlk (by rw [← hpk, ← hq]; exact hav)]
                  rfl
                rw [him] at hic
                clear hU hxc hxc2 hv hlk hpk hq hav him hn60
                go_wp2_with fail
                go_roundw
                case rel => exact HG.out
                case measure => simp [intOf]; omega
              · clear hU hxc hxc2 hv hlk hpk hq hav hic hn60
                go_wp2_with fail
                go_roundw
                case rel => exact HG.out
                case measure => simp [intOf]; omega
            · have hki : ¬ (k : Int) < (n2 : Int) := by omega
              have HAW := Lib.hid (awake8_any wr)
              have HU := Lib.hid HDI.out.under
              go_wp2_with fail
              refine HAW.out.mono ?_
              rintro e v3 ⟨rfl, hb3⟩
              have HB3 : Hid (Below w.heap.size w v3) := Lib.hid (HU.out.trans (hb3.mono HU.out.size))
              clear hb3
              go_wp2
              go_ret
              exact ⟨rfl, HB3.out⟩
end
section
open Go.RowKit Go
set_option linter.unusedVariables false
set_option linter.unusedSimpArgs false
set_option maxRecDepth 100000
set_option maxHeartbeats 16000000 in
theorem nvmLasts_1 (A0 A2 A3 : Option Addr) (n0 c0 n2 c2 n3 c3 : Nat) (z1 : Int) (l2 : List Nat) (os0 os3 : List O8) (w : World) (h0 : O8W w A0 n0 os0) (hn0 : n0 ≤ c0) (hc0 : c0 ≤ 9223372036854775807) (h2 : BS w w.heap.size A2 n2 c2 l2) (h3 : O8W w A3 n3 os3) (hn3 : n3 ≤ c3) (hc3 : c3 ≤ 9223372036854775807) (k2 : 60 < n2) :
    Calls Try.prog 4 #[.slice A0 n0 c0, .int .i64 z1, .slice A2 n2 c2, .slice A3 n3 c3] w fun e w' => e = .returned (.bool true) ∧ Below w.heap.size w w' := by
  have H0 := Lib.hid h0
  have H3 := Lib.hid h3
  have HB : Hid (BS w w.heap.size A2 60 c2 (l2.take 60)) := Lib.hid (h2.take (by omega))
  have HN : Hid (60 ≤ 60) := Lib.hid (by omega)
  have i2 : (60 : Int) < (n2 : Int) := by omega
  have hcA : ∀ W, (Instr.slice 28 (.slice A2 n2 c2) none (some (.int .i64 60)) none).run Try.prog W = .ok (.slice A2 60 c2) W := fun W => run_take8 A2 n2 c2 60 (by have := h2.cap.1; omega) W
  obtain ⟨p, hp, hand⟩ := and127 z1
  have HNP : Hid (Calls Try.prog 7 #[.int .i64 4] w (New8M w 4)) := Lib.hid (new_M 4 (by omega) w)
  have HNR : Hid (∀ W, Calls Try.prog 8 #[.int .i64 4] W (RNewL W 4)) := Lib.hid (fun W => rnew_L 4 (by omega) W)
  clear h0 h2 h3
  go_enter Try.func4, Try.ntmps4
  go_wp2_with fail
  refine HNP.out.mono ?_
  rintro e w1 ⟨rfl, hd1⟩
  have HP1 := Lib.hid hd1
  clear hd1
  go_wp2_with fail
  refine (HNR.out w1).mono ?_
  rintro e w2 hr
  obtain ⟨r, rfl, hd⟩ := duo_new 4 (by omega) w w1 w2 ⟨rfl, HP1.out⟩ hr
  have HST0 : Hid (QuR w (w.heap.size + 1) w.heap.size 4 4 r n0 15 (.int .i64 0) w2) := Lib.hid ⟨0, _, rfl, by omega, hd, Nat.zero_le _, Nat.zero_le _, fun x hx => by cases hx⟩
  obtain ⟨g, hg⟩ : ∃ g, g = w.heap.size + 1 := ⟨_, rfl⟩
  obtain ⟨b, hb⟩ : ∃ b, b = w.heap.size := ⟨_, rfl⟩
  rw [← hg, ← hb] at HST0
  rw [← hg]
  clear hr hd HP1 HNP HNR hg hb
  go_wp2_with fail
  go_loopw [24] (fun iv wr => QuR w g b 4 4 r n0 15 iv wr) (fun iv _ => (n0 - (intOf iv).toNat))
  case atStart => exact HST0.out
  case round =>
    clear HST0
    obtain ⟨i, s, rfl, hi, hd, hk1, hk2, hia⟩ := hrel
    have HD := Lib.hid hd
    have HSK := Lib.hid (And.intro hk1 hk2)
    have HIA := Lib.hid hia
    by_cases hlt : i < n0
    · have hlti : (i : Int) < (n0 : Int) := by omega
      have hwi : IntKind.i64.wrap ((i : Int) + 1) = (i : Int) + 1 := IntWalk.i64_in _ ⟨by omega, by omega⟩
      obtain ⟨bo, oo, B1, e1, B2, e2, rfl, hb0, p0, p1, p2, p3, p4, hs1, hs2, hA1, hA2, hfit⟩ := H0.out.2 i hlt
      have HB := Lib.hid hd.under
      have q0 := (HB.out.cell (p := ⟨bo, oo + i * 5, none⟩) hb0).trans p0
      have q1' := (HB.out.cell (p := ⟨bo, oo + i * 5 + 1, none⟩) hb0).trans p1
      have q2' := (HB.out.cell (p := ⟨bo, oo + i * 5 + 2, none⟩) hb0).trans p2
      have q3 := (HB.out.cell (p := ⟨bo, oo + i * 5 + 3, none⟩) hb0).trans p3
      have q4 := (HB.out.cell (p := ⟨bo, oo + i * 5 + 4, none⟩) hb0).trans p4
      have hlt1 : bo < wr.heap.size := Nat.lt_of_lt_of_le hb0 HB.out.size
      have HST := Lib.hid (fun W (hW : Duo w W [] g b 4 4 r s s) => step_any w W [] g b 4 4 r s s hW (by have := HSK.out; omega) (by have := HSK.out; omega) (o8At os0 i) B1 B2 e1 e2 hs1 hs2 hA1 hA2 hfit)
      have HSB : Hid (stB (o8At os0 i).cut 4 s s = true) := Lib.hid (stB_same _ _ _)
      rw [HSB.out] at HST
      have HKI : Hid ((stS (o8At os0 i).cut 4 s).k ≤ s.k + 1 ∧ IntsA (stS (o8At os0 i).cut 4 s).al) := Lib.hid ⟨stS_k _ _ _, stS_ints _ _ _ HIA.out⟩
      clear p0 p1 p2 p3 p4 hs1 hs2 hA1 hA2 hfit
      generalize stS (o8At os0 i).cut 4 s = s' at *
      generalize (o8At os0 i).kind = kd at *
      generalize (o8At os0 i).at_ = atq at *
      generalize (o8At os0 i).n = mq at *
      generalize (o8At os0 i).b.length = nb at *
      generalize (o8At os0 i).p.length = np at *
      clear hd hk1 hk2 hia
      by_cases h20 : i < 15
      · have h20i : (i : Int) < 15 := by omega
        go_wp2_with fail
        refine (HST.out _ (HD.out.next ((Below.refl _ _).alloc (Nat.le_refl _) _))).mono ?_
        rintro e w3 ⟨rfl, hd3⟩
        have HG : Hid (QuR w g b 4 4 r n0 15 (.int .i64 ((i : Int) + 1)) w3) := Lib.hid ⟨i + 1, s', by simp, by omega, hd3, by have := HKI.out; have := HSK.out; omega, by have := HKI.out; have := HSK.out; omega, HKI.out.2⟩
        clear hd3
        go_wp2_with fail
        go_roundw
        case rel => exact HG.out
        case measure => simp [intOf]; omega
      · have h20i : ¬ (i : Int) < 15 := by omega
        have HG : Hid (QuR w g b 4 4 r n0 15 (.int .i64 ((i : Int) + 1)) (wr.alloc (.cells #[.int .i64 kd, .int .i64 atq, .int .i64 mq, .slice B1 nb e1, .slice B2 np e2] 30))) := Lib.hid ⟨i + 1, s, by simp, by omega, HD.out.next ((Below.refl _ _).alloc (Nat.le_refl _) _), by have := HSK.out; omega, HSK.out.2, HIA.out⟩
        go_wp2_with fail
        go_roundw
        case rel => exact HG.out
        case measure => simp [intOf]; omega
    · have hlti : ¬ (i : Int) < (n0 : Int) := by omega
      clear hd hk1 hk2 hia
      have HOS : Hid (OkM s.ws ∧ s.ws.length = 32) := Lib.hid (by
        obtain ⟨av, pv, kv, av2, pl, N, M, hp1, _⟩ := HD.out
        exact ⟨hp1.m.mem.1, hp1.m.len⟩)
      obtain ⟨s1, hs1⟩ : ∃ s1, s1 = s.on.done 1 (p : Int) (60 : Int) (putW Wd.st p (l2.take 60) s.ws) := ⟨_, rfl⟩
      obtain ⟨s2, hs2⟩ : ∃ s2, s2 = s1.done 2 (p : Int) (60 : Int) (flushW p 60 s1.ws) := ⟨_, rfl⟩
      obtain ⟨s3, hs3⟩ : ∃ s3, s3 = s2.done 3 0 0 (turnW (fun _ => Wd.fe) 0 (8 * 4) s2.ws) := ⟨_, rfl⟩
      have hb9 : hasB 4 (p : Int) (60 : Int) = true := by unfold hasB; rw [decide_eq_true_eq]; have := HN.out; omega
      have HP1 : Hid (∀ W av pv, PD W g b 4 4 av pv s.on → BS W W.heap.size A2 60 c2 (l2.take 60) → FarP 60 A2 g b av pv → Calls Try.prog 13 #[.pointer (some ⟨g, 0, none⟩), .int .i64 (p : Int), .slice A2 60 c2] W (PTo W g b 4 4 av pv (.returned (.int .i64 0)) s1)) := Lib.hid (fun W av pv hpd hbs hfar => by
        have h := store_P g b 4 4 60 c2 (p : Int) A2 (l2.take 60) av pv s.on W hpd (by show s.k < _; have := HSK.out; omega) hbs hfar
        obtain ⟨q1, q2⟩ := on_act (s := s.on) (L := 4) (kd := 1) (a := (p : Int)) (n := ((60 : Nat) : Int)) (ws := putW Wd.st (p : Int).toNat (l2.take 60) s.on.ws) rfl rfl hb9
        rw [q1, q2] at h
        rw [hs1]
        exact h)
      have HP2 : Hid (∀ W av pv, PD W g b 4 4 av pv s1 → Calls Try.prog 14 #[.pointer (some ⟨g, 0, none⟩), .int .i64 (p : Int), .int .i64 (60 : Int)] W (PTo W g b 4 4 av pv (.returned (.int .i64 0)) s2)) := Lib.hid (fun W av pv hpd => by
        have h := flush_P g b 4 4 (p : Int) (60 : Int) av pv s1 W hpd (by rw [hs1]; show s.k + 1 < _; have := HSK.out; omega)
        obtain ⟨q1, q2⟩ := on_act (s := s1) (L := 4) (kd := 2) (a := (p : Int)) (n := (60 : Int)) (ws := flushW (p : Int).toNat ((60 : Int)).toNat s1.ws) (by rw [hs1]; rfl) (by rw [hs1]; rfl) hb9
        rw [q1, q2] at h
        rw [hs2]
        exact h)
      have HP3 : Hid (∀ W av pv, PD W g b 4 4 av pv s2 → Calls Try.prog 15 #[.pointer (some ⟨g, 0, none⟩)] W (PTo W g b 4 4 av pv (.returned (.int .i64 0)) s3)) := Lib.hid (fun W av pv hpd => by
        have h := fence_P g b 4 4 av pv s2 W hpd (by rw [hs2, hs1]; show s.k + 1 + 1 < _; have := HSK.out; omega)
        obtain ⟨q1, q2⟩ := on_act (s := s2) (L := 4) (kd := 3) (a := 0) (n := 0) (ws := turnW (fun _ => Wd.fe) 0 (8 * 4) s2.ws) (by rw [hs2, hs1]; rfl) (by rw [hs2, hs1]; rfl) (by decide)
        rw [q1, q2] at h
        rw [hs3]
        exact h)
      have HQ3 : Hid (∀ ag, QL p (l2.take 60) ag s3.ws) := Lib.hid (fun ag => by
        have hll := HB.out.len
        have h := QL.init HOS.out.1 p (l2.take 60) (bs_bytes HB.out) ag (by rw [hll, HOS.out.2]; have := HN.out; omega) (8 * 4) (by rw [HOS.out.2]; omega)
        rw [hll] at h
        rw [hs3, hs2, hs1]
        exact h)
      have HK3 : Hid (s3.k ≤ 18) := Lib.hid (by rw [hs3, hs2, hs1]; show s.k + 1 + 1 + 1 ≤ _; have := HSK.out; omega)
      clear hs1 hs2 hs3 hb9
      go_wp2_with fail
      refine (HD.out.doP (fun av pv hp hlt hz => on_P g b 4 4 av pv s _ hp)).mono ?_
      rintro e x1 ⟨rfl, hd⟩
      have HD1 := Lib.hid hd
      clear hd
      go_wp2_with fail
      refine (HD1.out.doP (fun av pv hp hlt hz => HP1.out _ av pv hp (bs_now HB.out HD1.out.under) (far_low HB.out (fun j q => (hlt j q).1)))).mono ?_
      rintro e x2 ⟨rfl, hd⟩
      have HD2 := Lib.hid hd
      clear hd
      go_wp2_with fail
      refine (HD2.out.doP (fun av pv hp hlt hz => HP2.out _ av pv hp)).mono ?_
      rintro e x3 ⟨rfl, hd⟩
      have HD3 := Lib.hid hd
      clear hd
      go_wp2_with fail
      refine (HD3.out.doP (fun av pv hp hlt hz => HP3.out _ av pv hp)).mono ?_
      rintro e x4 ⟨rfl, hd⟩
      have HD4 := Lib.hid hd
      clear hd HD HD1 HD2 HD3 HP1 HP2 HP3
      go_upto_region 14 with (fail)
      have HM4 := Lib.hid (HD4.out.mark (W' := x4.alloc (agO (List.replicate 32 false))) ((Below.refl _ _).alloc (Nat.le_refl _) _) (Nat.le_refl _) (heap_alloc_new _ _))
      have HST2 : Hid (LaR w g b r n3 p (l2.take 60) x4.heap.size (.int .i64 0) (x4.alloc (agO (List.replicate 32 false)))) := Lib.hid ⟨0, s3, s, _, rfl, by omega, by omega, List.length_replicate .., HM4.out, HK3.out, by have := HSK.out; omega, HQ3.out _⟩
      have HSZ4 : Hid (w.heap.size ≤ x4.heap.size) := Lib.hid HD4.out.under.size
      go_wp2_with fail
      obtain ⟨ba, hba⟩ : ∃ ba, ba = x4.heap.size := ⟨_, rfl⟩
      rw [← hba] at HST2 HSZ4
      rw [← hba]
      clear HM4 hba HD4 HQ3 HK3
      go_loopw [68] (fun iv wr => LaR w g b r n3 p (l2.take 60) ba iv wr) (fun iv _ => (n3 - (intOf iv).toNat))
      case atStart => exact HST2.out
      case round =>
        clear HST2 HSK HIA
        obtain ⟨i, sP, tR, ag, rfl, hi, hi15, hagl, hd, hk1, hk2, hql⟩ := hrel
        obtain ⟨wo, hwo⟩ : ∃ wo, wo = wr := ⟨_, rfl⟩
        rw [← hwo] at hd
        rw [← hwo]
        clear hwo
        have HD := Lib.hid hd
        have HKK : Hid (sP.k ≤ 33 ∧ tR.k ≤ 30 ∧ sP.k ≤ 18 + i ∧ tR.k ≤ 15 + i ∧ i ≤ 15) := Lib.hid (by omega)
        have HQL := Lib.hid hql
        have HAG := Lib.hid hagl
        by_cases hlt : i < n3
        · have hlti : (i : Int) < (n3 : Int) := by omega
          have hwi : IntKind.i64.wrap ((i : Int) + 1) = (i : Int) + 1 := IntWalk.i64_in _ ⟨by omega, by omega⟩
          obtain ⟨bo, oo, B1, e1, B2, e2, rfl, hb0, p0, p1, p2, p3, p4, hs1, hs2, hA1, hA2, hfit⟩ := H3.out.2 i hlt
          have HBU := Lib.hid hd.under
          have q0 := (HBU.out.cell (p := ⟨bo, oo + i * 5, none⟩) hb0).trans p0
          have q1' := (HBU.out.cell (p := ⟨bo, oo + i * 5 + 1, none⟩) hb0).trans p1
          have q2' := (HBU.out.cell (p := ⟨bo, oo + i * 5 + 2, none⟩) hb0).trans p2
          have q3 := (HBU.out.cell (p := ⟨bo, oo + i * 5 + 3, none⟩) hb0).trans p3
          have q4 := (HBU.out.cell (p := ⟨bo, oo + i * 5 + 4, none⟩) hb0).trans p4
          have hlt1 : bo < wo.heap.size := Nat.lt_of_lt_of_le hb0 HBU.out.size
          clear p0 p1 p2 p3 p4
          by_cases h15 : i < 15
          · have h15i : ¬ (15 : Int) ≤ (i : Int) := by omega
            clear hd hk1 hk2 hql hagl
            generalize (o8At os3 i).kind = kd at *
            generalize hatq : (o8At os3 i).at_ = atq at *
            generalize hmq : (o8At os3 i).n = mq at *
            obtain ⟨hf1, hf2⟩ := hfit
            rw [hatq] at hf1
            rw [hmq] at hf2
            generalize (o8At os3 i).b = lb at *
            generalize (o8At os3 i).p = lp at *
            clear hatq hmq
            obtain ⟨nb, hnb⟩ : ∃ nb, lb.length = nb := ⟨_, rfl⟩
            obtain ⟨np, hnp⟩ : ∃ np, lp.length = np := ⟨_, rfl⟩
            rw [hnb] at q3 hs1
            rw [hnp] at q4 hs2
            have HT1 : Hid (BS w w.heap.size B1 (min nb 150) e1 (lb.take 150)) := Lib.hid (cut_bsN 150 hs1)
            have HT2 : Hid (BS w w.heap.size B2 (min np 12) e2 (lp.take 12)) := Lib.hid (cut_bsN 12 hs2)
            have HCC := Lib.hid (fun W => cut8_any kd atq mq B1 B2 nb e1 np e2 hs1.cap.1 hs2.cap.1 W)
            have HLB : Hid (min nb 150 ≤ 150 ∧ min np 12 ≤ 12 ∧ (lb.take 150).length = min nb 150 ∧ (lp.take 12).length = min np 12) := Lib.hid ⟨Nat.min_le_right _ _, Nat.min_le_right _ _, HT1.out.len, HT2.out.len⟩
            have HFF := Lib.hid (And.intro hf1 hf2)
            have HNN := Lib.hid (And.intro hA1 hA2)
            clear hs1 hs2 hA1 hA2 hf1 hf2 hnb hnp
            go_wp2_with fail
            refine (HCC.out _).mono ?_
            rintro e wA ⟨rfl, hbA⟩
            have hXA : wA.heap[wo.heap.size]? = some (.cells #[.int .i64 kd, .int .i64 atq, .int .i64 mq, .slice B1 nb e1, .slice B2 np e2] 30 (0, 0)) := (hbA.block _ (by simp)).trans (heap_alloc_new _ _)
            have HBA : Hid (Below wo.heap.size wo wA) := Lib.hid (((Below.refl _ _).alloc (Nat.le_refl _) _).trans (hbA.mono (by simp)))
            clear hbA HCC
            have hI9 : (Try.prog.info? 30).map (·.size) = some (#[.int .i64 kd, .int .i64 atq, .int .i64 mq, .slice B1 (min nb 150) e1, .slice B2 (min np 12) e2] : Array Value).size := info_op8
            have hS9 : (#[.int .i64 kd, .int .i64 atq, .int .i64 mq, .slice B1 nb e1, .slice B2 np e2] : Array Value).size = (#[.int .i64 kd, .int .i64 atq, .int .i64 mq, .slice B1 (min nb 150) e1, .slice B2 (min np 12) e2] : Array Value).size := rfl
            have hO9 : (#[.int .i64 kd, .int .i64 atq, .int .i64 mq, .slice B1 (min nb 150) e1, .slice B2 (min np 12) e2] : Array Value).all (·.oneCell') = true := by simp [Value.oneCell']
            generalize lb.take 150 = l1 at *
            generalize lp.take 12 = lp1 at *
            generalize min nb 150 = nc at *
            generalize min np 12 = pc at *
            have HST := Lib.hid (fun (W : World) (z : List (Nat × Obj)) (hW : Duo w W z g b 4 4 r sP tR.on) => step_any w W z g b 4 4 r sP tR.on hW (by have := HKK.out; omega) (by show tR.k < _; have := HKK.out; omega) ⟨kd, atq, mq, l1, lp1⟩ B1 B2 e1 e2 (by show BS w w.heap.size B1 l1.length e1 l1; rw [HLB.out.2.2.1]; exact HT1.out) (by show BS w w.heap.size B2 lp1.length e2 lp1; rw [HLB.out.2.2.2]; exact HT2.out) HNN.out.1 HNN.out.2 HFF.out)
            rw [cut_cut ⟨kd, atq, mq, l1, lp1⟩ (by show l1.length ≤ 150; have := HLB.out; omega) (by show lp1.length ≤ 12; have := HLB.out; omega), show (O8.mk kd atq mq l1 lp1).b.length = nc from HLB.out.2.2.1, show (O8.mk kd atq mq l1 lp1).p.length = pc from HLB.out.2.2.2] at HST
            by_cases hk10 : kd = 10
            · subst hk10
              go_wp2_with (refine wpList_store_row rfl 30 (.tmp 15) (.tmp 76) rfl wo.heap.size #[.int .i64 10, .int .i64 atq, .int .i64 mq, .slice B1 nc e1, .slice B2 pc e2] rfl rfl 30 _ hXA hI9 hS9 hO9 ?_; obtain ⟨wB, hwB⟩ : ∃ wB, wB = wA.setRow wo.heap.size #[.int .i64 10, .int .i64 atq, .int .i64 mq, .slice B1 nc e1, .slice B2 pc e2] := ⟨_, rfl⟩; rw [← hwB]; have hY : wB.heap[wo.heap.size]? = some (.cells #[.int .i64 10, .int .i64 atq, .int .i64 mq, .slice B1 nc e1, .slice B2 pc e2] 30 (0, 0)) := (by rw [hwB]; exact setRow_heap _ _ _ _ _ _ hXA); have hWB : Below wo.heap.size wo wB := (by rw [hwB]; exact below_setRow HBA.out (Nat.le_refl _) _); have HDB := Lib.hid (HD.out.mark hWB (Nat.le_refl _) hY); clear hwB hXA hI9 hS9 hO9 hWB; have y0 : wB.cell? ⟨wo.heap.size, 0, none⟩ = some (.int .i64 10) := blk_cell hY 0; have y1 : wB.cell? ⟨wo.heap.size, 1, none⟩ = some (.int .i64 atq) := blk_cell hY 1; have y2 : wB.cell? ⟨wo.heap.size, 2, none⟩ = some (.int .i64 mq) := blk_cell hY 2; have y3 : wB.cell? ⟨wo.heap.size, 3, none⟩ = some (.slice B1 nc e1) := blk_cell hY 3; have y4 : wB.cell? ⟨wo.heap.size, 4, none⟩ = some (.slice B2 pc e2) := blk_cell hY 4; clear hY)
              have HG : Hid (LaR w g b r n3 p (l2.take 60) ba (.int .i64 ((i : Int) + 1)) wB) := Lib.hid ⟨i + 1, sP, tR, ag, by simp, by omega, by omega, HAG.out, HDB.out.sub (by intro x hx; simp only [List.mem_cons, List.not_mem_nil, or_false] at hx ⊢; subst hx; simp), by have := HKK.out; omega, by have := HKK.out; omega, HQL.out⟩
              go_roundw
              case rel => exact HG.out
              case measure => simp [intOf]; omega
            · have hq10 : (kd == 10) = false := by rw [beq_eq_false_iff_ne]; exact hk10
              by_cases hca : kd < 0
              · have hna : ¬ (0 : Int) ≤ kd := by omega
                go_wp2_with (refine wpList_store_row rfl 30 (.tmp 15) (.tmp 76) rfl wo.heap.size #[.int .i64 kd, .int .i64 atq, .int .i64 mq, .slice B1 nc e1, .slice B2 pc e2] rfl rfl 30 _ hXA hI9 hS9 hO9 ?_; obtain ⟨wB, hwB⟩ : ∃ wB, wB = wA.setRow wo.heap.size #[.int .i64 kd, .int .i64 atq, .int .i64 mq, .slice B1 nc e1, .slice B2 pc e2] := ⟨_, rfl⟩; rw [← hwB]; have hY : wB.heap[wo.heap.size]? = some (.cells #[.int .i64 kd, .int .i64 atq, .int .i64 mq, .slice B1 nc e1, .slice B2 pc e2] 30 (0, 0)) := (by rw [hwB]; exact setRow_heap _ _ _ _ _ _ hXA); have hWB : Below wo.heap.size wo wB := (by rw [hwB]; exact below_setRow HBA.out (Nat.le_refl _) _); have HDB := Lib.hid (HD.out.mark hWB (Nat.le_refl _) hY); clear hwB hXA hI9 hS9 hO9 hWB; have y0 : wB.cell? ⟨wo.heap.size, 0, none⟩ = some (.int .i64 kd) := blk_cell hY 0; have y1 : wB.cell? ⟨wo.heap.size, 1, none⟩ = some (.int .i64 atq) := blk_cell hY 1; have y2 : wB.cell? ⟨wo.heap.size, 2, none⟩ = some (.int .i64 mq) := blk_cell hY 2; have y3 : wB.cell? ⟨wo.heap.size, 3, none⟩ = some (.slice B1 nc e1) := blk_cell hY 3; have y4 : wB.cell? ⟨wo.heap.size, 4, none⟩ = some (.slice B2 pc e2) := blk_cell hY 4; clear hY)
                refine (HDB.out.doR (fun N M kv av2 pl hp hlt hz => on_R r 4 N M kv av2 pl tR _ hp)).mono ?_
                rintro e v1 ⟨rfl, hd1⟩
                have hXv := hd1.has (q := wo.heap.size) (o := (.cells #[.int .i64 kd, .int .i64 atq, .int .i64 mq, .slice B1 nc e1, .slice B2 pc e2] 30 (0, 0))) (by simp)
                have z0 : v1.cell? ⟨wo.heap.size, 0, none⟩ = some (.int .i64 kd) := blk_cell hXv 0
                have z1' : v1.cell? ⟨wo.heap.size, 1, none⟩ = some (.int .i64 atq) := blk_cell hXv 1
                have z2 : v1.cell? ⟨wo.heap.size, 2, none⟩ = some (.int .i64 mq) := blk_cell hXv 2
                have z3 : v1.cell? ⟨wo.heap.size, 3, none⟩ = some (.slice B1 nc e1) := blk_cell hXv 3
                have z4 : v1.cell? ⟨wo.heap.size, 4, none⟩ = some (.slice B2 pc e2) := blk_cell hXv 4
                have HDV := Lib.hid hd1
                clear hd1 hXv
                go_wp2_with fail
                refine (HST.out v1 _ HDV.out).mono ?_
                rintro e v2 ⟨rfl, hd2⟩
                have HG : Hid (LaR w g b r n3 p (l2.take 60) ba (.int .i64 ((i : Int) + 1)) v2) := Lib.hid ⟨i + 1, _, _, ag, by simp, by omega, by omega, HAG.out, hd2.sub (by intro x hx; simp only [List.mem_cons, List.not_mem_nil, or_false] at hx ⊢; subst hx; simp), by have := stS_k (O8.mk kd atq mq l1 lp1) 4 sP; have := HKK.out; omega, by have := stS_k (O8.mk kd atq mq l1 lp1) 4 tR.on; have := HKK.out; have : tR.on.k = tR.k := rfl; omega, HQL.out.stS ⟨kd, atq, mq, l1, lp1⟩ hk10 (fun ha hb hc => by exfalso; simp only at ha hb hc; omega)⟩
                clear hd2
                go_wp2_with fail
                go_roundw
                case rel => exact HG.out
                case measure => simp [intOf]; omega
              have hya : (0 : Int) ≤ kd := by omega
              by_cases hcb : 2 < kd
              · have hnb : ¬ kd ≤ (2 : Int) := by omega
                go_wp2_with (refine wpList_store_row rfl 30 (.tmp 15) (.tmp 76) rfl wo.heap.size #[.int .i64 kd, .int .i64 atq, .int .i64 mq, .slice B1 nc e1, .slice B2 pc e2] rfl rfl 30 _ hXA hI9 hS9 hO9 ?_; obtain ⟨wB, hwB⟩ : ∃ wB, wB = wA.setRow wo.heap.size #[.int .i64 kd, .int .i64 atq, .int .i64 mq, .slice B1 nc e1, .slice B2 pc e2] := ⟨_, rfl⟩; rw [← hwB]; have hY : wB.heap[wo.heap.size]? = some (.cells #[.int .i64 kd, .int .i64 atq, .int .i64 mq, .slice B1 nc e1, .slice B2 pc e2] 30 (0, 0)) := (by rw [hwB]; exact setRow_heap _ _ _ _ _ _ hXA); have hWB : Below wo.heap.size wo wB := (by rw [hwB]; exact below_setRow HBA.out (Nat.le_refl _) _); have HDB := Lib.hid (HD.out.mark hWB (Nat.le_refl _) hY); clear hwB hXA hI9 hS9 hO9 hWB; have y0 : wB.cell? ⟨wo.heap.size, 0, none⟩ = some (.int .i64 kd) := blk_cell hY 0; have y1 : wB.cell? ⟨wo.heap.size, 1, none⟩ = some (.int .i64 atq) := blk_cell hY 1; have y2 : wB.cell? ⟨wo.heap.size, 2, none⟩ = some (.int .i64 mq) := blk_cell hY 2; have y3 : wB.cell? ⟨wo.heap.size, 3, none⟩ = some (.slice B1 nc e1) := blk_cell hY 3; have y4 : wB.cell? ⟨wo.heap.size, 4, none⟩ = some (.slice B2 pc e2) := blk_cell hY 4; clear hY)
                refine (HDB.out.doR (fun N M kv av2 pl hp hlt hz => on_R r 4 N M kv av2 pl tR _ hp)).mono ?_
                rintro e v1 ⟨rfl, hd1⟩
                have hXv := hd1.has (q := wo.heap.size) (o := (.cells #[.int .i64 kd, .int .i64 atq, .int .i64 mq, .slice B1 nc e1, .slice B2 pc e2] 30 (0, 0))) (by simp)
                have z0 : v1.cell? ⟨wo.heap.size, 0, none⟩ = some (.int .i64 kd) := blk_cell hXv 0
                have z1' : v1.cell? ⟨wo.heap.size, 1, none⟩ = some (.int .i64 atq) := blk_cell hXv 1
                have z2 : v1.cell? ⟨wo.heap.size, 2, none⟩ = some (.int .i64 mq) := blk_cell hXv 2
                have z3 : v1.cell? ⟨wo.heap.size, 3, none⟩ = some (.slice B1 nc e1) := blk_cell hXv 3
                have z4 : v1.cell? ⟨wo.heap.size, 4, none⟩ = some (.slice B2 pc e2) := blk_cell hXv 4
                have HDV := Lib.hid hd1
                clear hd1 hXv
                go_wp2_with fail
                refine (HST.out v1 _ HDV.out).mono ?_
                rintro e v2 ⟨rfl, hd2⟩
                have HG : Hid (LaR w g b r n3 p (l2.take 60) ba (.int .i64 ((i : Int) + 1)) v2) := Lib.hid ⟨i + 1, _, _, ag, by simp, by omega, by omega, HAG.out, hd2.sub (by intro x hx; simp only [List.mem_cons, List.not_mem_nil, or_false] at hx ⊢; subst hx; simp), by have := stS_k (O8.mk kd atq mq l1 lp1) 4 sP; have := HKK.out; omega, by have := stS_k (O8.mk kd atq mq l1 lp1) 4 tR.on; have := HKK.out; have : tR.on.k = tR.k := rfl; omega, HQL.out.stS ⟨kd, atq, mq, l1, lp1⟩ hk10 (fun ha hb hc => by exfalso; simp only at ha hb hc; omega)⟩
                clear hd2
                go_wp2_with fail
                go_roundw
                case rel => exact HG.out
                case measure => simp [intOf]; omega
              have hyb : kd ≤ (2 : Int) := by omega
              by_cases hcc : atq < 0
              · have hnc : ¬ (0 : Int) ≤ atq := by omega
                go_wp2_with (refine wpList_store_row rfl 30 (.tmp 15) (.tmp 76) rfl wo.heap.size #[.int .i64 kd, .int .i64 atq, .int .i64 mq, .slice B1 nc e1, .slice B2 pc e2] rfl rfl 30 _ hXA hI9 hS9 hO9 ?_; obtain ⟨wB, hwB⟩ : ∃ wB, wB = wA.setRow wo.heap.size #[.int .i64 kd, .int .i64 atq, .int .i64 mq, .slice B1 nc e1, .slice B2 pc e2] := ⟨_, rfl⟩; rw [← hwB]; have hY : wB.heap[wo.heap.size]? = some (.cells #[.int .i64 kd, .int .i64 atq, .int .i64 mq, .slice B1 nc e1, .slice B2 pc e2] 30 (0, 0)) := (by rw [hwB]; exact setRow_heap _ _ _ _ _ _ hXA); have hWB : Below wo.heap.size wo wB := (by rw [hwB]; exact below_setRow HBA.out (Nat.le_refl _) _); have HDB := Lib.hid (HD.out.mark hWB (Nat.le_refl _) hY); clear hwB hXA hI9 hS9 hO9 hWB; have y0 : wB.cell? ⟨wo.heap.size, 0, none⟩ = some (.int .i64 kd) := blk_cell hY 0; have y1 : wB.cell? ⟨wo.heap.size, 1, none⟩ = some (.int .i64 atq) := blk_cell hY 1; have y2 : wB.cell? ⟨wo.heap.size, 2, none⟩ = some (.int .i64 mq) := blk_cell hY 2; have y3 : wB.cell? ⟨wo.heap.size, 3, none⟩ = some (.slice B1 nc e1) := blk_cell hY 3; have y4 : wB.cell? ⟨wo.heap.size, 4, none⟩ = some (.slice B2 pc e2) := blk_cell hY 4; clear hY)
                refine (HDB.out.doR (fun N M kv av2 pl hp hlt hz => on_R r 4 N M kv av2 pl tR _ hp)).mono ?_
                rintro e v1 ⟨rfl, hd1⟩
                have hXv := hd1.has (q := wo.heap.size) (o := (.cells #[.int .i64 kd, .int .i64 atq, .int .i64 mq, .slice B1 nc e1, .slice B2 pc e2] 30 (0, 0))) (by simp)
                have z0 : v1.cell? ⟨wo.heap.size, 0, none⟩ = some (.int .i64 kd) := blk_cell hXv 0
                have z1' : v1.cell? ⟨wo.heap.size, 1, none⟩ = some (.int .i64 atq) := blk_cell hXv 1
                have z2 : v1.cell? ⟨wo.heap.size, 2, none⟩ = some (.int .i64 mq) := blk_cell hXv 2
                have z3 : v1.cell? ⟨wo.heap.size, 3, none⟩ = some (.slice B1 nc e1) := blk_cell hXv 3
                have z4 : v1.cell? ⟨wo.heap.size, 4, none⟩ = some (.slice B2 pc e2) := blk_cell hXv 4
                have HDV := Lib.hid hd1
                clear hd1 hXv
                go_wp2_with fail
                refine (HST.out v1 _ HDV.out).mono ?_
                rintro e v2 ⟨rfl, hd2⟩
                have HG : Hid (LaR w g b r n3 p (l2.take 60) ba (.int .i64 ((i : Int) + 1)) v2) := Lib.hid ⟨i + 1, _, _, ag, by simp, by omega, by omega, HAG.out, hd2.sub (by intro x hx; simp only [List.mem_cons, List.not_mem_nil, or_false] at hx ⊢; subst hx; simp), by have := stS_k (O8.mk kd atq mq l1 lp1) 4 sP; have := HKK.out; omega, by have := stS_k (O8.mk kd atq mq l1 lp1) 4 tR.on; have := HKK.out; have : tR.on.k = tR.k := rfl; omega, HQL.out.stS ⟨kd, atq, mq, l1, lp1⟩ hk10 (fun ha hb hc => by exfalso; simp only at ha hb hc; omega)⟩
                clear hd2
                go_wp2_with fail
                go_roundw
                case rel => exact HG.out
                case measure => simp [intOf]; omega
              have hyc : (0 : Int) ≤ atq := by omega
              by_cases hcd : 256 ≤ atq
              · have hnd : ¬ atq < (256 : Int) := by omega
                go_wp2_with (refine wpList_store_row rfl 30 (.tmp 15) (.tmp 76) rfl wo.heap.size #[.int .i64 kd, .int .i64 atq, .int .i64 mq, .slice B1 nc e1, .slice B2 pc e2] rfl rfl 30 _ hXA hI9 hS9 hO9 ?_; obtain ⟨wB, hwB⟩ : ∃ wB, wB = wA.setRow wo.heap.size #[.int .i64 kd, .int .i64 atq, .int .i64 mq, .slice B1 nc e1, .slice B2 pc e2] := ⟨_, rfl⟩; rw [← hwB]; have hY : wB.heap[wo.heap.size]? = some (.cells #[.int .i64 kd, .int .i64 atq, .int .i64 mq, .slice B1 nc e1, .slice B2 pc e2] 30 (0, 0)) := (by rw [hwB]; exact setRow_heap _ _ _ _ _ _ hXA); have hWB : Below wo.heap.size wo wB := (by rw [hwB]; exact below_setRow HBA.out (Nat.le_refl _) _); have HDB := Lib.hid (HD.out.mark hWB (Nat.le_refl _) hY); clear hwB hXA hI9 hS9 hO9 hWB; have y0 : wB.cell? ⟨wo.heap.size, 0, none⟩ = some (.int .i64 kd) := blk_cell hY 0; have y1 : wB.cell? ⟨wo.heap.size, 1, none⟩ = some (.int .i64 atq) := blk_cell hY 1; have y2 : wB.cell? ⟨wo.heap.size, 2, none⟩ = some (.int .i64 mq) := blk_cell hY 2; have y3 : wB.cell? ⟨wo.heap.size, 3, none⟩ = some (.slice B1 nc e1) := blk_cell hY 3; have y4 : wB.cell? ⟨wo.heap.size, 4, none⟩ = some (.slice B2 pc e2) := blk_cell hY 4; clear hY)
                refine (HDB.out.doR (fun N M kv av2 pl hp hlt hz => on_R r 4 N M kv av2 pl tR _ hp)).mono ?_
                rintro e v1 ⟨rfl, hd1⟩
                have hXv := hd1.has (q := wo.heap.size) (o := (.cells #[.int .i64 kd, .int .i64 atq, .int .i64 mq, .slice B1 nc e1, .slice B2 pc e2] 30 (0, 0))) (by simp)
                have z0 : v1.cell? ⟨wo.heap.size, 0, none⟩ = some (.int .i64 kd) := blk_cell hXv 0
                have z1' : v1.cell? ⟨wo.heap.size, 1, none⟩ = some (.int .i64 atq) := blk_cell hXv 1
                have z2 : v1.cell? ⟨wo.heap.size, 2, none⟩ = some (.int .i64 mq) := blk_cell hXv 2
                have z3 : v1.cell? ⟨wo.heap.size, 3, none⟩ = some (.slice B1 nc e1) := blk_cell hXv 3
                have z4 : v1.cell? ⟨wo.heap.size, 4, none⟩ = some (.slice B2 pc e2) := blk_cell hXv 4
                have HDV := Lib.hid hd1
                clear hd1 hXv
                go_wp2_with fail
                refine (HST.out v1 _ HDV.out).mono ?_
                rintro e v2 ⟨rfl, hd2⟩
                have HG : Hid (LaR w g b r n3 p (l2.take 60) ba (.int .i64 ((i : Int) + 1)) v2) := Lib.hid ⟨i + 1, _, _, ag, by simp, by omega, by omega, HAG.out, hd2.sub (by intro x hx; simp only [List.mem_cons, List.not_mem_nil, or_false] at hx ⊢; subst hx; simp), by have := stS_k (O8.mk kd atq mq l1 lp1) 4 sP; have := HKK.out; omega, by have := stS_k (O8.mk kd atq mq l1 lp1) 4 tR.on; have := HKK.out; have : tR.on.k = tR.k := rfl; omega, HQL.out.stS ⟨kd, atq, mq, l1, lp1⟩ hk10 (fun ha hb hc => by exfalso; simp only at ha hb hc; omega)⟩
                clear hd2
                go_wp2_with fail
                go_roundw
                case rel => exact HG.out
                case measure => simp [intOf]; omega
              have hyd : atq < (256 : Int) := by omega
              obtain ⟨a0, ha0⟩ : ∃ a0 : Nat, atq = (a0 : Int) := ⟨atq.toNat, by omega⟩
              subst ha0
              have ha256 : a0 < 256 := by omega
              have hnc9 : nc ≤ 150 := HLB.out.1
              go_wp2_with (refine wpList_store_row rfl 30 (.tmp 15) (.tmp 76) rfl wo.heap.size #[.int .i64 kd, .int .i64 (a0 : Int), .int .i64 mq, .slice B1 nc e1, .slice B2 pc e2] rfl rfl 30 _ hXA hI9 hS9 hO9 ?_; obtain ⟨wB, hwB⟩ : ∃ wB, wB = wA.setRow wo.heap.size #[.int .i64 kd, .int .i64 (a0 : Int), .int .i64 mq, .slice B1 nc e1, .slice B2 pc e2] := ⟨_, rfl⟩; rw [← hwB]; have hY : wB.heap[wo.heap.size]? = some (.cells #[.int .i64 kd, .int .i64 (a0 : Int), .int .i64 mq, .slice B1 nc e1, .slice B2 pc e2] 30 (0, 0)) := (by rw [hwB]; exact setRow_heap _ _ _ _ _ _ hXA); have hWB : Below wo.heap.size wo wB := (by rw [hwB]; exact below_setRow HBA.out (Nat.le_refl _) _); have HDB := Lib.hid (HD.out.mark hWB (Nat.le_refl _) hY); clear hwB hXA hI9 hS9 hO9 hWB; have y0 : wB.cell? ⟨wo.heap.size, 0, none⟩ = some (.int .i64 kd) := blk_cell hY 0; have y1 : wB.cell? ⟨wo.heap.size, 1, none⟩ = some (.int .i64 (a0 : Int)) := blk_cell hY 1; have y2 : wB.cell? ⟨wo.heap.size, 2, none⟩ = some (.int .i64 mq) := blk_cell hY 2; have y3 : wB.cell? ⟨wo.heap.size, 3, none⟩ = some (.slice B1 nc e1) := blk_cell hY 3; have y4 : wB.cell? ⟨wo.heap.size, 4, none⟩ = some (.slice B2 pc e2) := blk_cell hY 4; clear hY)
              have HSA : Hid (AgR w [(wo.heap.size, (.cells #[.int .i64 kd, .int .i64 (a0 : Int), .int .i64 mq, .slice B1 nc e1, .slice B2 pc e2] 30 (0, 0)))] g b r sP tR ba nc a0 ag (.int .i64 0) wB) := Lib.hid ⟨0, ag, rfl, by omega, HAG.out, HDB.out.duoswap, fun j h => h, fun i hi => absurd hi (by omega)⟩
              have hbaw : ba < wo.heap.size := blk_lt' (HD.out.has (List.mem_cons_self ..))
              have HBW := Lib.hid hbaw
              clear y0 y1 y2 y3 y4 hbaw
              go_loopw [101] (fun kx wr => AgR w [(wo.heap.size, (.cells #[.int .i64 kd, .int .i64 (a0 : Int), .int .i64 mq, .slice B1 nc e1, .slice B2 pc e2] 30 (0, 0)))] g b r sP tR ba nc a0 ag kx wr) (fun kx _ => (nc - (intOf kx).toNat))
              case atStart => exact HSA.out
              case round =>
                clear HSA
                obtain ⟨k, ag', rfl, hkn, hagl', hdk, hmono, hmark⟩ := hrel
                have HDK := Lib.hid hdk
                have hXk := hdk.has (List.mem_cons_of_mem _ (List.mem_cons_self ..))
                have u0 : wr.cell? ⟨wo.heap.size, 0, none⟩ = some (.int .i64 kd) := blk_cell hXk 0
                have u1 : wr.cell? ⟨wo.heap.size, 1, none⟩ = some (.int .i64 (a0 : Int)) := blk_cell hXk 1
                have u2 : wr.cell? ⟨wo.heap.size, 2, none⟩ = some (.int .i64 mq) := blk_cell hXk 2
                have u3 : wr.cell? ⟨wo.heap.size, 3, none⟩ = some (.slice B1 nc e1) := blk_cell hXk 3
                have u4 : wr.cell? ⟨wo.heap.size, 4, none⟩ = some (.slice B2 pc e2) := blk_cell hXk 4
                have HMK := Lib.hid (And.intro hagl' (And.intro hmono hmark))
                by_cases hkl : k < nc
                · have hkli : (k : Int) < (nc : Int) := by omega
                  have hwk : IntKind.i64.wrap ((k : Int) + 1) = (k : Int) + 1 := IntWalk.i64_in _ ⟨by omega, by omega⟩
                  obtain ⟨pk, hpk⟩ : ∃ pk, pk = a0 + k := ⟨_, rfl⟩
                  have hwp : IntKind.i64.wrap ((a0 : Int) + (k : Int)) = (pk : Int) := by rw [show (a0 : Int) + (k : Int) = (pk : Int) by omega]; exact IntWalk.i64_in _ ⟨by omega, by omega⟩
                  by_cases h256 : pk < 256
                  · have h256i : (pk : Int) < 256 := by omega
                    obtain ⟨q, hq⟩ : ∃ q, q = pk / 8 := ⟨_, rfl⟩
                    have hdd : (pk : Int) / 8 = (q : Int) := by omega
                    have hdt : (pk : Int).tdiv 8 = (q : Int) := by rw [hq]; exact Int.ofNat_tdiv pk 8
                    have hwq : IntKind.i64.wrap (q : Int) = (q : Int) := IntWalk.i64_in _ ⟨by omega, by omega⟩
                    have hq32 : (q : Int) < 32 := by omega
                    obtain ⟨av9, hav⟩ : ∃ a, ag'[q]? = some a := ⟨_, List.getElem?_eq_getElem (by omega)⟩
                    obtain ⟨hagc, hagf⟩ := ag_cell (hdk.has (List.mem_cons_self ..)) hav
                    have HG : Hid (AgR w [(wo.heap.size, (.cells #[.int .i64 kd, .int .i64 (a0 : Int), .int .i64 mq, .slice B1 nc e1, .slice B2 pc e2] 30 (0, 0)))] g b r sP tR ba nc a0 ag (.int .i64 ((k : Int) + 1)) (wr.setCell ⟨ba, q, none⟩ (.bool true))) := Lib.hid (by
                      refine ⟨k + 1, ag'.set q true, by simp, by omega, by rw [List.length_set]; exact hagl', hdk.turn (fun q' o' hm => ?_) HSZ4.out (Turns.set _ _ rfl) (ag_set (hdk.has (List.mem_cons_self ..)) true), fun j hj => hmono j ?_, fun j hj hj2 => ?_⟩
                      · simp only [List.mem_cons, List.not_mem_nil, or_false, Prod.mk.injEq] at hm
                        have := HBW.out
                        omega
                      · by_cases e : j = q
                        · subst e
                          rw [List.getElem?_set_self (by omega)] at hj
                          cases hj
                        · rwa [List.getElem?_set_ne (fun x => e x.symm)] at hj
                      · by_cases e : (a0 + j) / 8 = q
                        · rw [e, List.getElem?_set_self (by omega)]
                          intro h; cases h
                        · rw [List.getElem?_set_ne (fun x => e x.symm)]
                          exact hmark j (by rcases Nat.lt_or_ge j k with h | h; exact h; exfalso; have : j = k := by omega
                                            subst this; exact e (by rw [hq, hpk])) hj2)
                    clear hdk hXk hmono hmark hq hpk hav
                    go_wp2_with fail
                    go_roundw
                    case rel => exact HG.out
                    case measure => simp [intOf]; omega
                  · have h256i : ¬ (pk : Int) < 256 := by omega
                    have HG : Hid (AgR w [(wo.heap.size, (.cells #[.int .i64 kd, .int .i64 (a0 : Int), .int .i64 mq, .slice B1 nc e1, .slice B2 pc e2] 30 (0, 0)))] g b r sP tR ba nc a0 ag (.int .i64 ((k : Int) + 1)) wr) := Lib.hid ⟨k + 1, ag', by simp, by omega, hagl', hdk, hmono, fun j hj hj2 => hmark j (by rcases Nat.lt_or_ge j k with h | h; exact h; exfalso; omega) hj2⟩
                    clear hdk hXk hmono hmark hpk
                    go_wp2_with fail
                    go_roundw
                    case rel => exact HG.out
                    case measure => simp [intOf]; omega
                · have hkli : ¬ (k : Int) < (nc : Int) := by omega
                  obtain rfl : k = nc := by omega
                  clear hdk hXk hmono hmark
                  go_wp2_with fail
                  refine (HDK.out.doR (fun N M kv av2 pl hp hlt hz => on_R r 4 N M kv av2 pl tR _ hp)).mono ?_
                  rintro e v1 ⟨rfl, hd1⟩
                  have hXv := hd1.has (q := wo.heap.size) (o := (.cells #[.int .i64 kd, .int .i64 (a0 : Int), .int .i64 mq, .slice B1 k e1, .slice B2 pc e2] 30 (0, 0))) (by simp)
                  have z0 : v1.cell? ⟨wo.heap.size, 0, none⟩ = some (.int .i64 kd) := blk_cell hXv 0
                  have z1' : v1.cell? ⟨wo.heap.size, 1, none⟩ = some (.int .i64 (a0 : Int)) := blk_cell hXv 1
                  have z2 : v1.cell? ⟨wo.heap.size, 2, none⟩ = some (.int .i64 mq) := blk_cell hXv 2
                  have z3 : v1.cell? ⟨wo.heap.size, 3, none⟩ = some (.slice B1 k e1) := blk_cell hXv 3
                  have z4 : v1.cell? ⟨wo.heap.size, 4, none⟩ = some (.slice B2 pc e2) := blk_cell hXv 4
                  have HDV := Lib.hid hd1
                  clear hd1 hXv
                  go_wp2_with fail
                  refine (HST.out v1 _ HDV.out).mono ?_
                  rintro e v2 ⟨rfl, hd2⟩
                  have HG : Hid (LaR w g b r n3 p (l2.take 60) ba (.int .i64 ((i : Int) + 1)) v2) := Lib.hid ⟨i + 1, _, _, ag', by simp, by omega, by omega, HMK.out.1, hd2.sub (by intro x hx; simp only [List.mem_cons, List.not_mem_nil, or_false] at hx ⊢; subst hx; simp), by have := stS_k (O8.mk kd (a0 : Int) mq l1 lp1) 4 sP; have := HKK.out; omega, by have := stS_k (O8.mk kd (a0 : Int) mq l1 lp1) 4 tR.on; have := HKK.out; have : tR.on.k = tR.k := rfl; omega, (HQL.out.mono HMK.out.2.1).stS ⟨kd, (a0 : Int), mq, l1, lp1⟩ hk10 (fun ha hb hc j hj hj2 => HMK.out.2.2 j (by have := HLB.out.2.2.1; simp only at hj; omega) hj2)⟩
                  clear hd2
                  go_wp2_with fail
                  go_roundw
                  case rel => exact HG.out
                  case measure => simp [intOf]; omega
          · have h15i : (15 : Int) ≤ (i : Int) := by omega
            obtain ⟨kd, hkd⟩ : ∃ kd, (o8At os3 i).kind = kd := ⟨_, rfl⟩
            rw [hkd] at q0
            generalize (o8At os3 i).at_ = atq at *
            generalize (o8At os3 i).n = mq at *
            generalize (o8At os3 i).b.length = nb at *
            generalize (o8At os3 i).p.length = np at *
            obtain ⟨wz, hwz⟩ : ∃ wz, wz = wo.alloc (.cells #[.int .i64 kd, .int .i64 atq, .int .i64 mq, .slice B1 nb e1, .slice B2 np e2] 30) := ⟨_, rfl⟩
            have HDZ : Hid (Duo w wz _ g b 4 4 r sP tR) := Lib.hid (by rw [hwz]; exact hd.next ((Below.refl _ _).alloc (Nat.le_refl _) _))
            clear hd hk1 hk2 hql hagl hs1 hs2 hA1 hA2 hfit hkd
            go_upto_region 31 with (fail)
            rw [← hwz]
            clear hwz q0 q1' q2' q3 q4
            have hbl : b < wz.heap.size := by
              obtain ⟨av, pv, kv, av2, pl, N9, M9, hp1, _⟩ := HDZ.out
              exact hp1.m.mem.lt
            have HBL := Lib.hid hbl
            clear hbl
            go_wp2_with fail
            refine ((HDZ.out.next ((Below.refl _ _).alloc (Nat.le_refl _) _)).doP (fun av pv hp hlt hz => crash_P g b 4 4 1 1 (some ⟨wz.heap.size, 0, none⟩) [0] av pv sP _ hp (aw_bs wz [0] 1 (0, 0) rfl (by omega) (b_of _ (fun v hv => by simp at hv; omega)) _ rfl) (fun _ ad e => by injection e with e; subst e; show wz.heap.size ≠ b; have := HBL.out; omega))).mono ?_
            rintro e v1 ⟨rfl, hd1⟩
            obtain ⟨sC, hsC⟩ : ∃ sC, sC = sP.crash 4 [0] := ⟨_, rfl⟩
            rw [← hsC] at hd1
            have HQC : Hid (QL p (l2.take 60) ag sC.ws) := Lib.hid (by rw [hsC]; exact HQL.out.crashS _ _)
            clear hsC
            have HDC := Lib.hid hd1
            obtain ⟨av, pv, kv, av2, pl, N9, M9, hp1, _⟩ := hd1
            have HOKC : Hid (OkM sC.ws ∧ (lastsL sC.ws).length = 256) := Lib.hid ⟨hp1.m.mem.1, by rw [lastsL_len hp1.m.mem.1, hp1.m.len]⟩
            have HIM := Lib.hid (image_L g b 4 4 sC.k sC.off av pv sC.al _ sC.ws v1 hp1.m)
            clear hp1
            go_wp2_with fail
            refine HIM.out.mono ?_
            rintro e v2 ⟨vI, rfl, hoI, hbI⟩
            have HDI := Lib.hid (HDC.out.next hbI)
            obtain ⟨A9, c9, rfl, hs9⟩ := hoI.bs (fun j => by
              by_cases hj : j < (lastsL sC.ws).length
              · rw [List.getD_eq_getElem?_getD, List.getElem?_eq_getElem hj]; exact HOKC.out.1.lasts _ (List.getElem_mem hj)
              · rw [List.getD_eq_getElem?_getD, List.getElem?_eq_none (by omega)]; simp)
            rw [HOKC.out.2] at hs9 ⊢
            have HS9 := Lib.hid hs9
            clear hoI hbI hs9 HIM
            go_wp2_with fail
            go_loopw [133] (fun iv wr => ∃ k : Nat, iv = .int .i64 (k : Int) ∧ k ≤ 60 ∧ wr = v2) (fun iv _ => (60 - (intOf iv).toNat))
            case atStart => exact ⟨0, rfl, by omega, rfl⟩
            case round =>
              obtain ⟨k, rfl, hkn, rfl⟩ := hrel
              by_cases hk : k < 60
              · have hki : (k : Int) < (60 : Int) := by omega
                have hn60 := HN.out
                have hwk : IntKind.i64.wrap ((k : Int) + 1) = (k : Int) + 1 := IntWalk.i64_in _ ⟨by omega, by omega⟩
                obtain ⟨xb, xo, hA, hxb, hxc⟩ := HB.out.at_ (show 0 < 60 by omega)
                have hU := HDI.out.under
                have hbc : wr.cell? ⟨xb, xo + k, none⟩ = some (.int .u8 ((((l2.take 60)).getD k 0 : Nat) : Int)) := (hU.cell (p := ⟨xb, xo + k, none⟩) hxb).trans (hxc k hk)
                have hxbl : xb < wr.heap.size := Nat.lt_of_lt_of_le hxb hU.size
                subst hA
                obtain ⟨v, hv⟩ : ∃ v, v = ((l2.take 60)).getD k 0 := ⟨_, rfl⟩
                have hlk : ((l2.take 60))[k]? = some v := by
                  have hll := HB.out.len
                  rw [hv, List.getD_eq_getElem?_getD, List.getElem?_eq_getElem (by omega)]
                  rfl
                rw [← hv] at hbc
                obtain ⟨pk, hpk⟩ : ∃ pk, pk = p + k := ⟨_, rfl⟩
                obtain ⟨q, hq⟩ : ∃ q, q = pk / 8 := ⟨_, rfl⟩
                have hwp : IntKind.i64.wrap ((p : Int) + (k : Int)) = (pk : Int) := by rw [show (p : Int) + (k : Int) = (pk : Int) by omega]; exact IntWalk.i64_in _ ⟨by omega, by omega⟩
                have hdd : (pk : Int) / 8 = (q : Int) := by omega
                have hdt : (pk : Int).tdiv 8 = (q : Int) := by rw [hq]; exact Int.ofNat_tdiv pk 8
                have hwq : IntKind.i64.wrap (q : Int) = (q : Int) := IntWalk.i64_in _ ⟨by omega, by omega⟩
                have hq32 : (q : Int) < 32 := by omega
                have hp256 : (pk : Int) < 256 := by omega
                obtain ⟨av9, hav⟩ : ∃ a, ag[q]? = some a := ⟨_, List.getElem?_eq_getElem (by rw [HAG.out]; omega)⟩
                have hagc := (ag_cell (HDI.out.has (List.mem_cons_self ..)) hav).1
                obtain ⟨xb2, xo2, hA9, hxb2, hxc2⟩ := HS9.out.at_ (show 0 < 256 by omega)
                have hic : wr.cell? ⟨xb2, xo2 + pk, none⟩ = some (.int .u8 (((lastsL sC.ws).getD pk 0 : Nat) : Int)) := hxc2 pk (by omega)
                subst hA9
                have HG : Hid (∃ k' : Nat, Value.int .i64 ((k : Int) + 1) = .int .i64 (k' : Int) ∧ k' ≤ 60 ∧ True) := Lib.hid ⟨k + 1, by simp, by omega, trivial⟩
                cases av9
                · have him : (lastsL sC.ws).getD pk 0 = v := by
                    rw [List.getD_eq_getElem?_getD, hpk, HQC.out.image HOKC.out.1 hlk (by rw [← hpk, ← hq]; exact hav)]
                    rfl
                  rw [him] at hic
                  clear hU hxc hxc2 hv hlk hpk hq hav him hn60
                  go_wp2_with fail
                  go_roundw
                  case rel => exact HG.out
                  case measure => simp [intOf]; omega
                · clear hU hxc hxc2 hv hlk hpk hq hav hic hn60
                  go_wp2_with fail
                  go_roundw
                  case rel => exact HG.out
                  case measure => simp [intOf]; omega
              · have hki : ¬ (k : Int) < (60 : Int) := by omega
                have HAW := Lib.hid (awake8_any wr)
                have HU := Lib.hid HDI.out.under
                go_wp2_with fail
                refine HAW.out.mono ?_
                rintro e v3 ⟨rfl, hb3⟩
                have HB3 : Hid (Below w.heap.size w v3) := Lib.hid (HU.out.trans (hb3.mono HU.out.size))
                clear hb3
                go_wp2
                go_ret
                exact ⟨rfl, HB3.out⟩
        · have hlti : ¬ (i : Int) < (n3 : Int) := by omega
          clear hd hk1 hk2 hql hagl
          have hbl : b < wo.heap.size := by
            obtain ⟨av, pv, kv, av2, pl, N9, M9, hp1, _⟩ := HD.out
            exact hp1.m.mem.lt
          have HBL := Lib.hid hbl
          clear hbl
          go_wp2_with fail
          refine ((HD.out.next ((Below.refl _ _).alloc (Nat.le_refl _) _)).doP (fun av pv hp hlt hz => crash_P g b 4 4 1 1 (some ⟨wo.heap.size, 0, none⟩) [0] av pv sP _ hp (aw_bs wo [0] 1 (0, 0) rfl (by omega) (b_of _ (fun v hv => by simp at hv; omega)) _ rfl) (fun _ ad e => by injection e with e; subst e; show wo.heap.size ≠ b; have := HBL.out; omega))).mono ?_
          rintro e v1 ⟨rfl, hd1⟩
          obtain ⟨sC, hsC⟩ : ∃ sC, sC = sP.crash 4 [0] := ⟨_, rfl⟩
          rw [← hsC] at hd1
          have HQC : Hid (QL p (l2.take 60) ag sC.ws) := Lib.hid (by rw [hsC]; exact HQL.out.crashS _ _)
          clear hsC
          have HDC := Lib.hid hd1
          obtain ⟨av, pv, kv, av2, pl, N9, M9, hp1, _⟩ := hd1
          have HOKC : Hid (OkM sC.ws ∧ (lastsL sC.ws).length = 256) := Lib.hid ⟨hp1.m.mem.1, by rw [lastsL_len hp1.m.mem.1, hp1.m.len]⟩
          have HIM := Lib.hid (image_L g b 4 4 sC.k sC.off av pv sC.al _ sC.ws v1 hp1.m)
          clear hp1
          go_wp2_with fail
          refine HIM.out.mono ?_
          rintro e v2 ⟨vI, rfl, hoI, hbI⟩
          have HDI := Lib.hid (HDC.out.next hbI)
          obtain ⟨A9, c9, rfl, hs9⟩ := hoI.bs (fun j => by
            by_cases hj : j < (lastsL sC.ws).length
            · rw [List.getD_eq_getElem?_getD, List.getElem?_eq_getElem hj]; exact HOKC.out.1.lasts _ (List.getElem_mem hj)
            · rw [List.getD_eq_getElem?_getD, List.getElem?_eq_none (by omega)]; simp)
          rw [HOKC.out.2] at hs9 ⊢
          have HS9 := Lib.hid hs9
          clear hoI hbI hs9 HIM
          go_wp2_with fail
          go_loopw [133] (fun iv wr => ∃ k : Nat, iv = .int .i64 (k : Int) ∧ k ≤ 60 ∧ wr = v2) (fun iv _ => (60 - (intOf iv).toNat))
          case atStart => exact ⟨0, rfl, by omega, rfl⟩
          case round =>
            obtain ⟨k, rfl, hkn, rfl⟩ := hrel
            by_cases hk : k < 60
            · have hki : (k : Int) < (60 : Int) := by omega
              have hn60 := HN.out
              have hwk : IntKind.i64.wrap ((k : Int) + 1) = (k : Int) + 1 := IntWalk.i64_in _ ⟨by omega, by omega⟩
              obtain ⟨xb, xo, hA, hxb, hxc⟩ := HB.out.at_ (show 0 < 60 by omega)
              have hU := HDI.out.under
              have hbc : wr.cell? ⟨xb, xo + k, none⟩ = some (.int .u8 ((((l2.take 60)).getD k 0 : Nat) : Int)) := (hU.cell (p := ⟨xb, xo + k, none⟩) hxb).trans (hxc k hk)
              have hxbl : xb < wr.heap.size := Nat.lt_of_lt_of_le hxb hU.size
              subst hA
              obtain ⟨v, hv⟩ : ∃ v, v = ((l2.take 60)).getD k 0 := ⟨_, rfl⟩
              have hlk : ((l2.take 60))[k]? = some v := by
                have hll := HB.out.len
                rw [hv, List.getD_eq_getElem?_getD, List.getElem?_eq_getElem (by omega)]
                rfl
              rw [← hv] at hbc
              obtain ⟨pk, hpk⟩ : ∃ pk, pk = p + k := ⟨_, rfl⟩
              obtain ⟨q, hq⟩ : ∃ q, q = pk / 8 := ⟨_, rfl⟩
              have hwp : IntKind.i64.wrap ((p : Int) + (k : Int)) = (pk : Int) := by rw [show (p : Int) + (k : Int) = (pk : Int) by omega]; exact IntWalk.i64_in _ ⟨by omega, by omega⟩
              have hdd : (pk : Int) / 8 = (q : Int) := by omega
              have hdt : (pk : Int).tdiv 8 = (q : Int) := by rw [hq]; exact Int.ofNat_tdiv pk 8
              have hwq : IntKind.i64.wrap (q : Int) = (q : Int) := IntWalk.i64_in _ ⟨by omega, by omega⟩
              have hq32 : (q : Int) < 32 := by omega
              have hp256 : (pk : Int) < 256 := by omega
              obtain ⟨av9, hav⟩ : ∃ a, ag[q]? = some a := ⟨_, List.getElem?_eq_getElem (by rw [HAG.out]; omega)⟩
              have hagc := (ag_cell (HDI.out.has (List.mem_cons_self ..)) hav).1
              obtain ⟨xb2, xo2, hA9, hxb2, hxc2⟩ := HS9.out.at_ (show 0 < 256 by omega)
              have hic : wr.cell? ⟨xb2, xo2 + pk, none⟩ = some (.int .u8 (((lastsL sC.ws).getD pk 0 : Nat) : Int)) := hxc2 pk (by omega)
              subst hA9
              have HG : Hid (∃ k' : Nat, Value.int .i64 ((k : Int) + 1) = .int .i64 (k' : Int) ∧ k' ≤ 60 ∧ True) := Lib.hid ⟨k + 1, by simp, by omega, trivial⟩
              cases av9
              · have him : (lastsL sC.ws).getD pk 0 = v := by
                  rw [List.getD_eq_getElem?_getD, hpk, HQC.out.image HOKC.out.1 hlk (by rw [← hpk, ← hq]; exact hav)]
                  rfl
                rw [him] at hic
                clear hU hxc hxc2 hv hlk hpk hq hav him hn60
                go_wp2_with fail
                go_roundw
                case rel => exact HG.out
                case measure => simp [intOf]; omega
              · clear hU hxc hxc2 hv hlk hpk hq hav hic hn60
                go_wp2_with fail
                go_roundw
                case rel => exact HG.out
                case measure => simp [intOf]; omega
            · have hki : ¬ (k : Int) < (60 : Int) := by omega
              have HAW := Lib.hid (awake8_any wr)
              have HU := Lib.hid HDI.out.under
              go_wp2_with fail
              refine HAW.out.mono ?_
              rintro e v3 ⟨rfl, hb3⟩
              have HB3 : Hid (Below w.heap.size w v3) := Lib.hid (HU.out.trans (hb3.mono HU.out.size))
              clear hb3
              go_wp2
              go_ret
              exact ⟨rfl, HB3.out⟩
end
section
open Go.RowKit Go
set_option linter.unusedVariables false
theorem nvmLasts_any (A0 A2 A3 : Option Addr) (n0 c0 n2 c2 n3 c3 : Nat) (z1 : Int) (l2 : List Nat) (os0 os3 : List O8) (w : World) (h0 : O8W w A0 n0 os0) (hn0 : n0 ≤ c0) (hc0 : c0 ≤ 9223372036854775807) (h2 : BS w w.heap.size A2 n2 c2 l2) (h3 : O8W w A3 n3 os3) (hn3 : n3 ≤ c3) (hc3 : c3 ≤ 9223372036854775807) :
    Calls Try.prog 4 #[.slice A0 n0 c0, .int .i64 z1, .slice A2 n2 c2, .slice A3 n3 c3] w fun e w' => e = .returned (.bool true) ∧ Below w.heap.size w w' := by
  rcases Nat.lt_or_ge 60 n2 with k2 | k2
  · exact nvmLasts_1 A0 A2 A3 n0 c0 n2 c2 n3 c3 z1 l2 os0 os3 w h0 hn0 hc0 h2 h3 hn3 hc3 k2
  · exact nvmLasts_0 A0 A2 A3 n0 c0 n2 c2 n3 c3 z1 l2 os0 os3 w h0 hn0 hc0 h2 h3 hn3 hc3 k2
end
end Go.Proofs.Ythigknolpdohoaa
