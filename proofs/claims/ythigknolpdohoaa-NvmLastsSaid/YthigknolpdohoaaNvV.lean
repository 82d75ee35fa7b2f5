/-
  The power goes, over the list of words.
-/
import Derived.Test.YthigknolpdohoaaNvU
namespace Go.Proofs.Ythigknolpdohoaa
open Go.RowKit Go
set_option linter.unusedVariables false
set_option linter.unusedSimpArgs false
set_option maxRecDepth 100000
/-- what becomes of a word, told with all that the picks are -/
theorem crash1_any (b pp qq j i n c B : Nat) (A : Option Addr) (l : List Nat) (ws : List Wd) (x : Wd) (w : World) (h : MemB w b LineT ws) (hi : ws[i]? = some x) (hp : w.cell? ⟨pp, 0, none⟩ = some (.slice A n c)) (hb : BS w B A n c l) (hq : Cnt w qq j) (hqb : qq ≠ b) (hql : qq < w.heap.size) (hj : j ≤ 100000) :
    Calls Try.prog 47 #[.pointer (some ⟨b, 18 * i, none⟩), .pointer (some ⟨pp, 0, none⟩), .pointer (some ⟨qq, 0, none⟩)] w (CrE w b qq (j + (if x.pend then 1 else 0)) (ws.set i (x.cr l j))) := by
  have hl := hb.len
  cases hx : x.pend
  · have hpe := h.pend hi
    rw [hx] at hpe
    refine (crash1_quiet b (18 * i) _ _ w hpe).mono ?_
    rintro e w1 ⟨rfl, rfl⟩
    rw [show x.cr l j = x by unfold Wd.cr; rw [hx]; rfl, set_same hi]
    exact ⟨rfl, Turns.of_below (Below.refl _ _), h, hq⟩
  · rw [if_pos rfl]
    by_cases hn : 0 < n
    · obtain ⟨xb, xo, rfl, _, hc⟩ := hb.at_ hn
      have hr : j % n < n := Nat.mod_lt _ hn
      by_cases hv : l.getD (j % n) 0 % 2 = 1
      · rw [show x.cr l j = x.keep by unfold Wd.cr pickB; rw [hx, hl, hv, decide_eq_true hn]; rfl]
        exact crash1_keep b pp qq j i c n (j % n) _ xb xo ws x w h hi hp hn rfl (hc _ hr) hv hq hqb hql hj hx
      · have hv0 : l.getD (j % n) 0 % 2 = 0 := by omega
        rw [show x.cr l j = x.lose by unfold Wd.cr pickB; rw [hx, hl, hv0]; simp]
        exact crash1_lose b pp qq j i c n (j % n) _ xb xo ws x w h hi hp hn rfl (hc _ hr) hv0 hq hqb hql hj hx
    · have h0 : n = 0 := by omega
      subst h0
      rw [show x.cr l j = x.lose by unfold Wd.cr pickB; rw [hx, hl]; rfl]
      exact crash1_empty b pp qq j i c A ws x w h hi hp hq hqb hql hj hx
/-- how many of the words below i are pending -/
def cnt (ws : List Wd) (i : Nat) : Nat := ((ws.take i).filter (·.pend)).length
theorem cnt_next {ws : List Wd} {i : Nat} {x : Wd} (hi : ws[i]? = some x) : cnt ws (i + 1) = cnt ws i + (if x.pend then 1 else 0) := by
  unfold cnt
  rw [List.take_add_one, hi, List.filter_append, List.length_append]
  congr 1
  show (List.filter (fun x => x.pend) [x]).length = _
  cases h : x.pend <;> simp [List.filter, h]
theorem cnt_le (ws : List Wd) (i : Nat) : cnt ws i ≤ ws.length := by
  unfold cnt
  exact Nat.le_trans (List.length_filter_le _ _) (by rw [List.length_take]; omega)
/-- all words behind a loss of power -/
def crF (l : List Nat) (ws : List Wd) (i : Nat) (x : Wd) : Wd := x.cr l (cnt ws i)
def crashW (l : List Nat) (L : Nat) (ws : List Wd) : List Wd := turnW (crF l ws) 0 (8 * L) ws
def CraI (V : World) (b qq : Nat) (l : List Nat) (ws : List Wd) (m : Nat) (W : World) : Prop :=
  Turns (fun k => k = b ∨ k = qq) V W ∧ MemB W b LineT (turnW (crF l ws) 0 m ws) ∧ Cnt W qq (cnt ws m)
theorem craI_turns {V : World} {b pp qq n c L : Nat} {A : Option Addr} {l : List Nat} {ws : List Wd} (hlen : ws.length = 8 * L) (hL : L ≤ 1024) (hL0 : 0 < L) (hp : V.cell? ⟨pp, 0, none⟩ = some (.slice A n c)) (hpl : pp < V.heap.size) (hpb : pp ≠ b) (hpq : pp ≠ qq) (hqb : qq ≠ b) (hql : qq < V.heap.size)
    (hb : BS V V.heap.size A n c l) (hob : Off n A b) (hoq : Off n A qq) : TurnsW 47 [.pointer (some ⟨pp, 0, none⟩), .pointer (some ⟨qq, 0, none⟩)] b 0 (L - 1) (CraI V b qq l ws) := by
  intro la k W h1 h2 h3 hi
  obtain ⟨ht, hm, hc⟩ := hi
  obtain ⟨x, hx⟩ : ∃ x, ws[8 * la + k]? = some x := ⟨_, List.getElem?_eq_getElem (by omega)⟩
  have hcl := cnt_le ws (8 * la + k)
  have hsz := ht.size
  have hpW : W.cell? ⟨pp, 0, none⟩ = some (.slice A n c) := (World.cell?_of_block (ht.block pp hpl (by rintro (e | e); exact hpb e; exact hpq e))).trans hp
  have hbW : BS W W.heap.size A n c l := by
    obtain ⟨b1, b2, b3, b4, b5⟩ := hb
    refine ⟨b1, b2, b3, b4, fun hn => ?_⟩
    obtain ⟨p, o, e, hp1, hp2⟩ := b5 hn
    refine ⟨p, o, e, by omega, fun i hi => (World.cell?_of_block (ht.block p hp1 ?_)).trans (hp2 i hi)⟩
    rintro (q | q)
    · exact hob hn _ e q
    · exact hoq hn _ e q
  have := crash1_any b pp qq (cnt ws (8 * la + k)) (8 * la + k) n c W.heap.size A l _ x W hm (turnW_here _ hx) hpW hbW hc hqb (by omega) (by omega)
  rw [show 18 * (8 * la + k) = la * 144 + k * 18 by omega] at this
  refine this.mono ?_
  rintro e w1 ⟨he, ht1, hm1, hc1⟩
  refine ⟨he, ht.trans ht1 (fun _ _ q => q), ?_, by rw [cnt_next hx]; exact hc1⟩
  rw [← turnW_next (crF l ws) (Nat.zero_le _) hx]
  exact hm1
section
variable {W W' : World} {g b L c k : Nat} {off : Bool} {av pv : Value} {al : List Value} {u : Int} {ws : List Wd}
theorem DevM.of {off' : Bool} {av' pv' : Value} {k' : Nat} {al' : List Value} {u' : Int} (h : DevM W g b L c off av k al u pv ws) (hd : DevK W' g (.slice (some ⟨b, 0, none⟩) L c) off' av' k' al' u' pv') (hb : W'.heap[b]? = W.heap[b]?) : DevM W' g b L c off' av' k' al' u' pv' ws :=
  ⟨hd, h.mem.same hb, h.len, h.bg, h.L1⟩
theorem DevM.armed (h : DevM W g b L c off av k al u pv ws) (u' : Int) : DevM ((W.setCell ⟨g, 3, none⟩ (.int .i64 u')).setCell ⟨g, 4, none⟩ (.slice none 0 0)) g b L c off av k al u' (.slice none 0 0) ws := by
  have hbg := h.bg
  exact h.of ((h.dev.set_.2.1 u').set_.2.2 (.slice none 0 0)) ((Below.heap_setCell _ _ _ _ (by show b ≠ g; omega)).trans (Below.heap_setCell _ _ _ _ (by show b ≠ g; omega)))
theorem DevM.turned (h : DevM W g b L c off av k al u pv ws) (o' : Bool) : DevM (W.setCell ⟨g, 1, none⟩ (.bool o')) g b L c o' av k al u pv ws := by
  have hbg := h.bg
  exact h.of (h.dev.set_.1 o') (Below.heap_setCell _ _ _ _ (by show b ≠ g; omega))
theorem DevM.turns (h : DevM W g b L c off av k al u pv ws) {qq : Nat} {ws' : List Wd} (ht : Turns (fun j => j = b ∨ j = qq) W W') (hqg : qq ≠ g) (hqa : ∀ j, av.ownBlock = some j → j ≠ qq) (hm : MemB W' b LineT ws') (hl : ws'.length = 8 * L) : DevM W' g b L c off av k al u pv ws' := by
  have hbg := h.bg
  have hlt := h.dev.own.lt
  refine ⟨⟨(ht.block g h.dev.dev.lt (by rintro (e | e); omega; exact hqg e.symm)).trans h.dev.dev, ?_⟩, hm, hl, h.bg, h.L1⟩
  obtain ⟨h1, h2⟩ := h.dev.own
  refine ⟨h1, ?_⟩
  rcases h2 with h2 | ⟨o, cap, cur, hv, hbo, hh, hr⟩
  · exact .inl h2
  · have hob : av.ownBlock = some o := by rw [hv]; rfl
    exact .inr ⟨o, cap, cur, hv, hbo, (ht.block o (hlt o hob).2 (by rintro (e | e); omega; exact hqa o hob e)).trans hh, hr⟩
end
/-- Arm without picks -/
theorem arm_M (g b L c k : Nat) (off : Bool) (av pv : Value) (al : List Value) (u a : Int) (ws : List Wd) (w : World) (h : DevM w g b L c off av k al u pv ws) :
    Calls Try.prog 33 #[.pointer (some ⟨g, 0, none⟩), .int .i64 a, .slice none 0 0] w fun e w' => e = .returned (.tuple #[]) ∧ DevM w' g b L c off av k al (armU a) (.slice none 0 0) ws ∧ Turns (fun j => j = g) w w' := by
  refine (arm8_any g _ off av pv u a w h.dev.dev).mono ?_
  rintro e w' ⟨he, rfl⟩
  exact ⟨he, h.armed (armU a), turns_g 3 4 _ _⟩
set_option maxHeartbeats 1000000 in
theorem crash_M (g b L c k n c9 : Nat) (A : Option Addr) (l : List Nat) (av pv : Value) (al : List Value) (u : Int) (ws : List Wd) (w : World) (h : DevM w g b L c false av k al u pv ws) (hL0 : 0 < L) (hb : BS w w.heap.size A n c9 l) (hob : Off n A b) :
    Calls Try.prog 18 #[.pointer (some ⟨g, 0, none⟩), .slice A n c9] w fun e w' => e = .returned (.tuple #[]) ∧ DevM w' g b L c true av k al 0 (.slice none 0 0) (crashW l L ws) ∧ Turns (fun j => j = g ∨ j = b) w w' := by
  obtain ⟨V, hV⟩ : ∃ V, V = (w.alloc (.cells #[.slice A n c9] 28)).alloc (.cells #[.int .i64 0] 3) := ⟨_, rfl⟩
  have hb1 : Below w.heap.size w (w.alloc (.cells #[.slice A n c9] 28)) := (Below.refl _ _).alloc (Nat.le_refl _) _
  have hb2 : Below w.heap.size w V := by rw [hV]; exact hb1.alloc hb1.size _
  have hd := h.next hb2
  have k1 := (h.next hb1).dev.dev.offC
  have hsz : V.heap.size = w.heap.size + 1 + 1 := by rw [hV]; simp
  have hbl := h.mem.lt
  have hgl := h.dev.dev.lt
  have hbg := h.bg
  have hlt := h.dev.own.lt
  have hpc : V.cell? ⟨w.heap.size, 0, none⟩ = some (.slice A n c9) := by rw [hV]; go_simp
  have hqc : V.cell? ⟨w.heap.size + 1, 0, none⟩ = some (.int .i64 ((cnt ws 0 : Nat) : Int)) := by rw [hV]; show _ = some (Value.int .i64 0); go_simp
  have hqf : V.frozen? ⟨w.heap.size + 1, 0, none⟩ = false := by rw [hV]; go_simp
  have hbV : BS V V.heap.size A n c9 l := (hb.below hb2).more hb2.size
  have hoq : Off n A (w.heap.size + 1) := fun hn ad e => by
    obtain ⟨p, o, e2, hp, _⟩ := hb.at_ hn
    rw [e2] at e
    injection e with e
    subst e
    show p ≠ _
    omega
  have HT := Lib.hid (craI_turns (V := V) (pp := w.heap.size) (qq := w.heap.size + 1) h.len h.L1 hL0 hpc (by omega) (by omega) (by omega) (by omega) (by omega) hbV hob hoq)
  have HAL := Lib.hid (all8_any g b L c 47 [.pointer (some ⟨w.heap.size, 0, none⟩), .pointer (some ⟨w.heap.size + 1, 0, none⟩)] (CraI V b (w.heap.size + 1) l ws) V false av pv u (fun _ _ => rfl) hd.dev.dev hL0 h.L1
    (fun m W hi => (World.cell?_of_block (hi.1.block g (by omega) (by rintro (e | e) <;> omega))).trans hd.dev.dev.lines) HT.out ⟨Turns.of_below (Below.refl _ _), by rw [turnW_none]; exact hd.mem, hqc, hqf⟩)
  have HD := Lib.hid (fun (W : World) (hi : CraI V b (w.heap.size + 1) l ws (8 * L) W) => hd.turns hi.1 (by omega) (fun j e => by have := (hlt j e).2; omega) hi.2.1 (by rw [turnW_len]; exact h.len))
  have HB2 := Lib.hid (And.intro hb2 hsz)
  have HV := Lib.hid hV
  clear h hb1 hb2 hd hV hsz hbl hgl hbg hlt hpc hqc hqf hbV hoq hb hob HT
  go_enter Try.func18, Try.ntmps18
  go_wp2_with fail
  rw [← HV.out]
  refine HAL.out.mono ?_
  rintro e w1 ⟨rfl, hi⟩
  have hd1 := HD.out _ hi
  have kv1 := hd1.dev.dev.offC
  have fv1 := hd1.dev.dev.free 1
  have HA := Lib.hid (arm_M g b L c k true av pv al u 0 _ _ (hd1.turned true))
  have HI := Lib.hid hi.1
  clear hi hd1
  go_wp2_with fail
  refine HA.out.mono ?_
  rintro e w2 ⟨rfl, hd, ht⟩
  have HD2 := Lib.hid hd
  have HT2 := Lib.hid ht
  clear hd ht
  go_wp2
  go_end0
  refine ⟨rfl, HD2.out, ?_⟩
  have hs := HB2.out.2
  have t1 : Turns (fun j => j = g ∨ j = b) w w1 := (Turns.of_below (S := fun j => j = g ∨ j = b) HB2.out.1).trans HI.out (fun j hj e => by rcases e with e | e; exact .inr e; omega)
  have t2 : Turns (fun j => j = g ∨ j = b) w (w1.setCell ⟨g, 1, none⟩ (.bool true)) := t1.trans (S' := fun j => j = g) (Turns.set _ _ rfl) (fun _ _ e => .inl e)
  exact t2.trans HT2.out (fun _ _ e => .inl e)
end Go.Proofs.Ythigknolpdohoaa
