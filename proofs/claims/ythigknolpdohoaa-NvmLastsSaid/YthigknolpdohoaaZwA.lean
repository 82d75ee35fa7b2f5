/-
  Joined: NwA, NwB, NwC.
-/
import Derived.Test.YthigknolpdohoaaZrJ
import Derived.Test.YthigknolpdohoaaZrL
import Derived.BigQuiet
import Derived.Test.YthigknolpdohoaaNvBC
namespace Go.Proofs.Ythigknolpdohoaa
set_option maxRecDepth 100000
section
open Go.RowKit Go
set_option linter.unusedVariables false
set_option linter.unusedSimpArgs false
set_option maxRecDepth 100000
section
variable {W W' w0 : World} {g b L c N M : Nat} {r : RI} {av pv kv av2 : Value} {pl : List Nat} {s t s' t' : DSt} {z : List (Nat × Obj)}
theorem PD.lt (h : PD W g b L c av pv s) {j : Nat} (hj : PS g b av pv j) : j < W.heap.size := by
  rcases hj with q | q | q | q
  · have := h.m.dev.dev.lt; omega
  · have := h.m.mem.lt; omega
  · exact (h.m.dev.own.lt j q).2
  · exact (h.p.lt q).2
theorem RV.lt (h : RV W r L N M kv av2 pl t) {j : Nat} (hj : RS r kv av2 j) : j < W.heap.size := by
  rcases hj with q | q | q | q | q | q | q
  · have := blk_lt h.w.dev; omega
  · have := blk_lt h.w.hl; omega
  · have := blk_lt h.w.hn; omega
  · have := blk_lt h.w.hp; omega
  · have := blk_lt h.w.hm; omega
  · exact (h.w.own.lt j q).2
  · exact (h.w.pk.lt q).2
theorem PD.far (h : PD W g b L c av pv s) (hk : ∀ j, PS g b av pv j → W'.heap[j]? = W.heap[j]?) : PD W' g b L c av pv s :=
  ⟨⟨⟨(hk g (.inl rfl)).trans h.m.dev.dev, owns_far h.m.dev.own fun j hj => hk j (.inr (.inr (.inl hj)))⟩, h.m.mem.same (hk b (.inr (.inl rfl))), h.m.len, h.m.bg, h.m.L1⟩, h.p.keep fun j hj => hk j (.inr (.inr (.inr hj))), h.pb, h.one, h.u2⟩
theorem RV.far (h : RV W r L N M kv av2 pl t) (hk : ∀ j, RS r kv av2 j → W'.heap[j]? = W.heap[j]?) : RV W' r L N M kv av2 pl t :=
  ⟨⟨(hk _ (.inl rfl)).trans h.w.dev, owns_far h.w.own fun j hj => hk j (.inr (.inr (.inr (.inr (.inr (.inl hj)))))), h.w.pk.keep fun j hj => hk j (.inr (.inr (.inr (.inr (.inr (.inr hj)))))), (hk _ (.inr (.inl rfl))).trans h.w.hl, (hk _ (.inr (.inr (.inl rfl)))).trans h.w.hn, (hk _ (.inr (.inr (.inr (.inl rfl))))).trans h.w.hp, (hk _ (.inr (.inr (.inr (.inr (.inl rfl)))))).trans h.w.hm, h.w.lt, h.w.ne, h.w.ln, h.w.by_, h.w.sz⟩, h.ok, h.len, h.L1, h.sz, h.pu, h.u2, h.mkp, h.one⟩
/-- both devices behind a world w0, and blocks that are apart from them -/
def Duo (w0 W : World) (z : List (Nat × Obj)) (g b L c : Nat) (r : RI) (s t : DSt) : Prop :=
  ∃ av pv kv av2 pl N M, PD W g b L c av pv s ∧ RV W r L N M kv av2 pl t ∧ (∀ j, PS g b av pv j → ¬ RS r kv av2 j) ∧ Below w0.heap.size w0 W ∧ (∀ j, PS g b av pv j → w0.heap.size ≤ j) ∧ (∀ j, RS r kv av2 j → w0.heap.size ≤ j) ∧ ∀ q o, (q, o) ∈ z → W.heap[q]? = some o ∧ ¬ PS g b av pv q ∧ ¬ RS r kv av2 q
theorem Duo.under (h : Duo w0 W z g b L c r s t) : Below w0.heap.size w0 W := by
  obtain ⟨av, pv, kv, av2, pl, N, M, h1, h2, h3, h4, h5, h6, h7⟩ := h
  exact h4
theorem Duo.has (h : Duo w0 W z g b L c r s t) {q : Nat} {o : Obj} (e : (q, o) ∈ z) : W.heap[q]? = some o := by
  obtain ⟨av, pv, kv, av2, pl, N, M, h1, h2, h3, h4, h5, h6, h7⟩ := h
  exact (h7 q o e).1
theorem Duo.next (h : Duo w0 W z g b L c r s t) (hb : Below W.heap.size W W') : Duo w0 W' z g b L c r s t := by
  obtain ⟨av, pv, kv, av2, pl, N, M, h1, h2, h3, h4, h5, h6, h7⟩ := h
  exact ⟨av, pv, kv, av2, pl, N, M, h1.next hb, h2.next hb, h3, h4.trans (hb.mono h4.size), h5, h6, fun q o e => ⟨(hb.block q (blk_lt' (h7 q o e).1)).trans (h7 q o e).1, (h7 q o e).2⟩⟩
theorem Duo.sub {z' : List (Nat × Obj)} (h : Duo w0 W z g b L c r s t) (hs : ∀ x ∈ z', x ∈ z) : Duo w0 W z' g b L c r s t := by
  obtain ⟨av, pv, kv, av2, pl, N, M, h1, h2, h3, h4, h5, h6, h7⟩ := h
  exact ⟨av, pv, kv, av2, pl, N, M, h1, h2, h3, h4, h5, h6, fun q o e => h7 q o (hs _ e)⟩
/-- a block that is made is apart -/
theorem Duo.mark (h : Duo w0 W z g b L c r s t) (hb : Below W.heap.size W W') {q0 : Nat} {o : Obj} (hq : W.heap.size ≤ q0) (ho : W'.heap[q0]? = some o) : Duo w0 W' ((q0, o) :: z) g b L c r s t := by
  obtain ⟨av, pv, kv, av2, pl, N, M, h1, h2, h3, h4, h5, h6, h7⟩ := h
  refine ⟨av, pv, kv, av2, pl, N, M, h1.next hb, h2.next hb, h3, h4.trans (hb.mono h4.size), h5, h6, fun q o' e => ?_⟩
  rcases List.mem_cons.1 e with e | e
  · injection e with e1 e2
    subst e1
    subst e2
    exact ⟨ho, fun q => by have := h1.lt q; omega, fun q => by have := h2.lt q; omega⟩
  · exact ⟨(hb.block q (blk_lt' (h7 q o' e).1)).trans (h7 q o' e).1, (h7 q o' e).2⟩
/-- a block that is apart turns -/
theorem Duo.turn {q0 : Nat} {o0 o : Obj} (h : Duo w0 W ((q0, o0) :: z) g b L c r s t) (hz : ∀ q o, (q, o) ∈ z → q ≠ q0) (hq : w0.heap.size ≤ q0) (ht : Turns (fun j => j = q0) W W') (ho : W'.heap[q0]? = some o) : Duo w0 W' ((q0, o) :: z) g b L c r s t := by
  obtain ⟨av, pv, kv, av2, pl, N, M, h1, h2, h3, h4, h5, h6, h7⟩ := h
  obtain ⟨a1, a2, a3⟩ := h7 q0 o0 (List.mem_cons_self ..)
  refine ⟨av, pv, kv, av2, pl, N, M, h1.far fun j hj => ht.block j (h1.lt hj) (fun e => a2 (e ▸ hj)), h2.far fun j hj => ht.block j (h2.lt hj) (fun e => a3 (e ▸ hj)), h3, h4.trans (ht.below h4.size (by intro j e; omega)), h5, h6, fun q o' e => ?_⟩
  rcases List.mem_cons.1 e with e | e
  · injection e with e1 e2
    subst e1
    subst e2
    exact ⟨ho, a2, a3⟩
  · have h9 := h7 q o' (List.mem_cons_of_mem _ e)
    exact ⟨(ht.block q (blk_lt' h9.1) (hz q o' e)).trans h9.1, h9.2⟩
/-- a call of the program's device -/
theorem Duo.doP (h : Duo w0 W z g b L c r s t) {f : FuncId} {args : Array Value} {e0 : Ending} (hc : ∀ av pv, PD W g b L c av pv s → (∀ j, PS g b av pv j → w0.heap.size ≤ j ∧ j < W.heap.size) → (∀ q o, (q, o) ∈ z → ¬ PS g b av pv q) → Calls Try.prog f args W (PTo W g b L c av pv e0 s')) :
    Calls Try.prog f args W fun e w' => e = e0 ∧ Duo w0 w' z g b L c r s' t := by
  obtain ⟨av, pv, kv, av2, pl, N, M, h1, h2, h3, h4, h5, h6, h7⟩ := h
  refine (hc av pv h1 (fun j hj => ⟨h5 j hj, h1.lt hj⟩) (fun q o e => (h7 q o e).2.1)).mono ?_
  rintro e w' ⟨rfl, av', pv', hd, ht, ho⟩
  have hn : ∀ j, j < W.heap.size → ¬ PS g b av pv j → ¬ PS g b av' pv' j := fun j hj hp q => by
    rcases ho j q with q | q
    · exact hp q
    · omega
  refine ⟨rfl, av', pv', kv, av2, pl, N, M, hd, h2.far fun j hj => ht.block j (h2.lt hj) (fun q => h3 j q hj), fun j hj q => ?_, h4.trans (ht.below h4.size (fun j hj => h5 j hj)), fun j hj => ?_, h6, fun q o e => ?_⟩
  · exact hn j (h2.lt q) (fun p => h3 j p q) hj
  · rcases ho j hj with q | q
    · exact h5 j q
    · exact Nat.le_trans h4.size q
  · obtain ⟨a1, a2, a3⟩ := h7 q o e
    exact ⟨(ht.block q (blk_lt' a1) a2).trans a1, hn q (blk_lt' a1) a2, a3⟩
/-- a call of the document's -/
theorem Duo.doR (h : Duo w0 W z g b L c r s t) {f : FuncId} {args : Array Value} {e0 : Ending} (hc : ∀ N M kv av2 pl, RV W r L N M kv av2 pl t → (∀ j, RS r kv av2 j → w0.heap.size ≤ j ∧ j < W.heap.size) → (∀ q o, (q, o) ∈ z → ¬ RS r kv av2 q) → Calls Try.prog f args W (RTo W r L N M kv av2 e0 t')) :
    Calls Try.prog f args W fun e w' => e = e0 ∧ Duo w0 w' z g b L c r s t' := by
  obtain ⟨av, pv, kv, av2, pl, N, M, h1, h2, h3, h4, h5, h6, h7⟩ := h
  refine (hc N M kv av2 pl h2 (fun j hj => ⟨h6 j hj, h2.lt hj⟩) (fun q o e => (h7 q o e).2.2)).mono ?_
  rintro e w' ⟨rfl, kv', av', pl', hd, ht, ho⟩
  have hn : ∀ j, j < W.heap.size → ¬ RS r kv av2 j → ¬ RS r kv' av' j := fun j hj hp q => by
    rcases ho j q with q | q
    · exact hp q
    · omega
  refine ⟨rfl, av, pv, kv', av', pl', N, M, h1.far fun j hj => ht.block j (h1.lt hj) (fun q => h3 j hj q), hd, fun j hj q => ?_, h4.trans (ht.below h4.size (fun j hj => h6 j hj)), h5, fun j hj => ?_, fun q o e => ?_⟩
  · exact hn j (h1.lt hj) (fun p => h3 j hj p) q
  · rcases ho j hj with q | q
    · exact h6 j q
    · exact Nat.le_trans h4.size q
  · obtain ⟨a1, a2, a3⟩ := h7 q o e
    exact ⟨(ht.block q (blk_lt' a1) a3).trans a1, a2, hn q (blk_lt' a1) a3⟩
end
/-- both are made -/
theorem duo_new (L : Nat) (hL : L ≤ 1024) (w w1 w2 : World) (hp : New8M w L (.returned (.pointer (some ⟨w.heap.size + 1, 0, none⟩))) w1) {e : Ending} (hr : RNewL w1 L e w2) : ∃ r : RI, e = .returned (.pointer (some ⟨r.g, 0, none⟩)) ∧ Duo w w2 [] (w.heap.size + 1) w.heap.size L L r ⟨zws L, false, 0, [], 0, []⟩ ⟨zws L, false, 0, [], 0, []⟩ := by
  obtain ⟨_, hd, hb, hs⟩ := hp
  obtain ⟨r, he, hv, hb2, hj⟩ := hr
  have h1 : PD w1 (w.heap.size + 1) w.heap.size L L (.slice none 0 0) (.slice none 0 0) ⟨zws L, false, 0, [], 0, []⟩ := ⟨hd, Own.nil _ _, (fun v hv => by cases hv), (fun x hx => by cases hx), Nat.zero_le _⟩
  have h2 : ∀ j, PS (w.heap.size + 1) w.heap.size (.slice none 0 0) (.slice none 0 0) j → w.heap.size ≤ j ∧ j < w1.heap.size := by
    rintro j (q | q | q | q)
    · omega
    · omega
    · cases q
    · cases q
  refine ⟨r, he, _, _, _, _, _, _, _, h1.next hb2, hv, fun j a q => ?_, hb.trans (hb2.mono (by omega)), fun j a => (h2 j a).1, fun j a => ?_, fun q o e => by cases e⟩
  · have := (h2 j a).2; have := hj j q; omega
  · have := hj j a; omega
end
section
open Go.RowKit Go
set_option linter.unusedVariables false
set_option linter.unusedSimpArgs false
set_option maxRecDepth 100000
/-- only integers -/
def IntsA (al : List Value) : Prop := ∀ x ∈ al, ∃ z, x = .int .i64 z
theorem own_cell {W : World} {B n : Nat} {e : TypeId} {ga c : Nat} {vs : List Value} (h : W.ownsRow B e 3 (.slice (some ⟨ga, 0, none⟩) n c) n vs) {j : Nat} {u : Value} (hj : vs[j]? = some u) : W.cell? ⟨ga, j, none⟩ = some u := by
  obtain ⟨hl, h2⟩ := h
  rcases h2 with ⟨e1, _⟩ | ⟨g2, cap, cur, e1, hg, hh, hn, hm, hs, ht⟩
  · cases e1
  · injection e1 with e2 _ _
    injection e2 with e2
    injection e2 with e2 _ _
    subst e2
    have hj3 : j < n * 3 := by have := (List.getElem?_eq_some_iff.mp hj).1; omega
    rw [blk_cell hh j]
    rw [← ht, List.getElem?_take_of_lt hj3] at hj
    simpa using hj
theorem own_some {W : World} {B n s : Nat} {e : TypeId} {A : Option Addr} {c : Nat} {vs : List Value} (h : W.ownsRow B e s (.slice A n c) n vs) (hn : 0 < n) : ∃ ga, A = some ⟨ga, 0, none⟩ := by
  obtain ⟨hl, h2⟩ := h
  rcases h2 with ⟨e1, e0⟩ | ⟨g2, cap, cur, e1, _⟩
  · injection e1 with _ e2 _
    omega
  · injection e1 with e2 _ _
    exact ⟨g2, e2⟩
theorem ints_three {al : List Value} (h : IntsA al) {k i : Nat} (hl : al.length = k * 3) (hi : i < k) : ∃ z0 z1 z2, al[i * 3]? = some (.int .i64 z0) ∧ al[i * 3 + 1]? = some (.int .i64 z1) ∧ al[i * 3 + 2]? = some (.int .i64 z2) := by
  have key : ∀ j, j < al.length → ∃ z, al[j]? = some (.int .i64 z) := fun j hj => by
    obtain ⟨z, hz⟩ := h _ (List.getElem_mem hj)
    exact ⟨z, by rw [List.getElem?_eq_getElem hj, hz]⟩
  obtain ⟨z0, h0⟩ := key (i * 3) (by omega)
  obtain ⟨z1, h1⟩ := key (i * 3 + 1) (by omega)
  obtain ⟨z2, h2⟩ := key (i * 3 + 2) (by omega)
  exact ⟨z0, z1, z2, h0, h1, h2⟩
theorem ldL_b {s : DSt} (h : OkM s.ws) (L : Nat) (a n : Int) : ∀ i, (ldL s L a n).getD i 0 < 256 := fun i => by
  have hm : ∀ v ∈ ldL s L a n, v < 256 := fun v hv => by
    unfold ldL at hv
    split at hv
    · exact nows_b h v (List.mem_of_mem_drop (List.mem_of_mem_take hv))
    · cases hv
  by_cases hi : i < (ldL s L a n).length
  · rw [List.getD_eq_getElem?_getD, List.getElem?_eq_getElem hi]; exact hm _ (List.getElem_mem hi)
  · rw [List.getD_eq_getElem?_getD, List.getElem?_eq_none (by omega)]; simp
/-- behind some acts -/
def SaR (w : World) (k : Nat) (iv : Value) (W : World) : Prop := ∃ i : Nat, iv = .int .i64 (i : Int) ∧ i ≤ k ∧ Below w.heap.size w W
set_option maxHeartbeats 8000000 in
theorem same_any (g b L c N M : Nat) (r : RI) (av pv kv av2 : Value) (pl : List Nat) (s : DSt) (w : World) (h1 : PD w g b L c av pv s) (h2 : RV w r L N M kv av2 pl s) (hi : IntsA s.al) (hk : s.k ≤ 16384) :
    Calls Try.prog 9 #[.pointer (some ⟨g, 0, none⟩), .pointer (some ⟨r.g, 0, none⟩)] w fun e w' => e = .returned (.bool true) ∧ Below w.heap.size w w' := by
  obtain ⟨X, hX⟩ : ∃ X, X = str (lastsL s.ws) := ⟨_, rfl⟩
  obtain ⟨off, hoff⟩ : ∃ off, off = s.off := ⟨_, rfl⟩
  obtain ⟨k, hkk⟩ : ∃ k, k = s.k := ⟨_, rfl⟩
  have hN := h2.sz.1
  have HX := Lib.hid hX
  have HH := Lib.hid (And.intro h1 h2)
  have HBL : Hid (∀ i, (lastsL s.ws).getD i 0 < 256) := Lib.hid (fun i => by
    by_cases hi : i < (lastsL s.ws).length
    · rw [List.getD_eq_getElem?_getD, List.getElem?_eq_getElem hi]; exact h1.m.mem.1.lasts _ (List.getElem_mem hi)
    · rw [List.getD_eq_getElem?_getD, List.getElem?_eq_none (by omega)]; simp)
  have HS : Hid (∀ W, Below w.heap.size w W → Below w.heap.size w W ∧ W.cell? ⟨r.g, 0, none⟩ = some (.slice (some ⟨r.bl, 0, none⟩) N N) ∧ W.cell? ⟨r.g, 1, none⟩ = some (.slice (some ⟨r.bn, 0, none⟩) N N) ∧ W.cell? ⟨r.g, 4, none⟩ = some (.bool off) ∧ (convert 28 9 (.slice (some ⟨r.bl, 0, none⟩) N N)).run Try.prog W = .ok (.string X) W) := Lib.hid (fun W hW => by
    have h3 := (h2.next hW).w
    refine ⟨hW, h3.cell 0, h3.cell 1, by rw [hoff]; exact h3.cell 4, ?_⟩
    rw [hX, lastsLQ]
    exact h3.bs.2.conv _ 5 _ Try.underlying28 Try.underlying5 Try.underlying9)
  have HDN : Hid (∀ W, Below w.heap.size w W → Calls Try.prog 23 #[.pointer (some ⟨g, 0, none⟩)] W fun e w' => e = .returned (.bool off) ∧ W = w') := Lib.hid (fun W hW => by rw [hoff]; exact down8_any g _ s.off av pv _ W (h1.next hW).m.dev.dev)
  have HLN : Hid (∀ W, Below w.heap.size w W → Calls Try.prog 24 #[.pointer (some ⟨g, 0, none⟩)] W fun e w' => e = .returned (.int .i64 (N : Int)) ∧ W = w') := Lib.hid (fun W hW => by
    have := len8_any g L c _ s.off av pv _ W (h1.next hW).m.dev.dev h1.m.L1
    rwa [show 64 * (L : Int) = (N : Int) by omega] at this)
  have HPE : Hid (∀ W, Below w.heap.size w W → Calls Try.prog 21 #[.pointer (some ⟨g, 0, none⟩)] W fun e w' => e = .returned (.int .i64 ((cnt s.ws (8 * L) : Nat) : Int)) ∧ Below W.heap.size W w') := Lib.hid (fun W hW => pending_L g b L c s.k s.off av pv s.al _ s.ws W (h1.next hW).m)
  have HPR : Hid (∀ W, Below w.heap.size w W → Calls Try.prog 25 #[.pointer (some ⟨r.g, 0, none⟩)] W fun e w' => e = .returned (.int .i64 ((cnt s.ws (8 * L) : Nat) : Int)) ∧ W = w') := Lib.hid (fun W hW => pending_R r L N M kv av2 pl s W (h2.next hW))
  have HIM : Hid (∀ W, Below w.heap.size w W → Calls Try.prog 19 #[.pointer (some ⟨g, 0, none⟩)] W (ImTo W s.ws)) := Lib.hid (fun W hW => image_L g b L c s.k s.off av pv s.al _ s.ws W (h1.next hW).m)
  generalize cnt s.ws (8 * L) = cn at *
  have HIA := Lib.hid hi
  have HKK := Lib.hid (And.intro hkk hk)
  have HNN := Lib.hid hN
  have hgl : r.g < w.heap.size := blk_lt h2.w.dev
  clear h1 h2 hi hX hoff hk hkk hN
  go_enter Try.func9, Try.ntmps9
  go_upto_region 1 with (fail)
  refine wp_region_F (S := (fun w' => Below w.heap.size w w' ∧ w'.cell? ⟨r.g, 0, none⟩ = some (.slice (some ⟨r.bl, 0, none⟩) N N) ∧ w'.cell? ⟨r.g, 1, none⟩ = some (.slice (some ⟨r.bn, 0, none⟩) N N) ∧ w'.cell? ⟨r.g, 4, none⟩ = some (.bool off) ∧ (convert 28 9 (.slice (some ⟨r.bl, 0, none⟩) N N)).run Try.prog w' = .ok (.string X) w')) [] (by kernel_rfl) (HS.out _ (Below.refl _ _).drew) (fun hHeld => ?_)
  refine wpAnyF_take (i := 0) (oi := _) (v := ?_) rfl (by kernel_rfl) (by kernel_rfl) (by kernel_rfl) (by kernel_rfl) (fun _ _ _ h => h) (Or.inl ⟨by rfl, ?_⟩) (by assumption) ?_
  rotate_left 1
  · intro w hSw
    (try dsimp only at hSw)
    (first | (go_simp; done) | (go_simp; with_reducible rfl))
  (try simp only [Act.put, List.getElem_toArray, List.getElem_cons_succ, List.getElem_cons_zero, List.setIfInBounds_toArray, List.set_cons_zero, List.set_cons_succ])
  refine wpAnyF_take (i := 2) (oi := _) (v := ?_) rfl (by kernel_rfl) (by kernel_rfl) (by kernel_rfl) (by kernel_rfl) (fun _ _ _ h => h) (Or.inl ⟨by rfl, ?_⟩) (by assumption) ?_
  rotate_left 1
  · intro w hSw
    (try dsimp only at hSw)
    (first | (go_simp; done) | (go_simp; with_reducible rfl))
  (try simp only [Act.put, List.getElem_toArray, List.getElem_cons_succ, List.getElem_cons_zero, List.setIfInBounds_toArray, List.set_cons_zero, List.set_cons_succ])
  refine wpAnyF_take (i := 3) (oi := _) (v := ?_) rfl (by kernel_rfl) (by kernel_rfl) (by kernel_rfl) (by kernel_rfl) (fun _ _ _ h => h) (Or.inl ⟨by rfl, ?_⟩) (by assumption) ?_
  rotate_left 1
  · intro w hSw
    (try dsimp only at hSw)
    (first | (go_simp; done) | (go_simp; with_reducible rfl))
  (try simp only [Act.put, List.getElem_toArray, List.getElem_cons_succ, List.getElem_cons_zero, List.setIfInBounds_toArray, List.set_cons_zero, List.set_cons_succ])
  refine wpAnyF_take (i := 4) (oi := _) (v := ?_) rfl (by kernel_rfl) (by kernel_rfl) (by kernel_rfl) (by kernel_rfl) (fun _ _ _ h => h) (Or.inl ⟨by rfl, ?_⟩) (by assumption) ?_
  rotate_left 1
  · intro w hSw
    (try dsimp only at hSw)
    (first | (go_simp; done) | (go_simp; with_reducible rfl))
  (try simp only [Act.put, List.getElem_toArray, List.getElem_cons_succ, List.getElem_cons_zero, List.setIfInBounds_toArray, List.set_cons_zero, List.set_cons_succ])
  refine wpAnyF_take (i := 5) (oi := _) (v := ?_) rfl (by kernel_rfl) (by kernel_rfl) (by kernel_rfl) (by kernel_rfl) (fun _ _ _ h => h) (Or.inl ⟨by rfl, ?_⟩) (by assumption) ?_
  rotate_left 1
  · intro w hSw
    (try dsimp only at hSw)
    (first | (go_simp; done) | (go_simp; with_reducible rfl))
  (try simp only [Act.put, List.getElem_toArray, List.getElem_cons_succ, List.getElem_cons_zero, List.setIfInBounds_toArray, List.set_cons_zero, List.set_cons_succ])
  refine wpAnyF_ready (rs := [1]) (by kernel_rfl) (by simp) ?_
  refine AllReadyF.cons (o := _) rfl (fun K hK => ?_) AllReadyF.nil
  go_simp
  refine (HDN.out _ hHeld.1).mono ?_
  rintro e x1 ⟨rfl, rfl⟩
  refine hK.out _ _ (hHeld) (fun hHeld1 => ?_)
  clear hK K
  (try simp only [Act.put, List.getElem_toArray, List.getElem_cons_succ, List.getElem_cons_zero, List.setIfInBounds_toArray, List.set_cons_zero, List.set_cons_succ])
  refine wpAnyF_take (i := 6) (oi := _) (v := ?_) rfl (by kernel_rfl) (by kernel_rfl) (by kernel_rfl) (by kernel_rfl) (fun _ _ _ h => h) (Or.inl ⟨by rfl, ?_⟩) (by assumption) ?_
  rotate_left 1
  · intro w hSw
    (try dsimp only at hSw)
    (first | (go_simp; done) | (go_simp; with_reducible rfl))
  (try simp only [Act.put, List.getElem_toArray, List.getElem_cons_succ, List.getElem_cons_zero, List.setIfInBounds_toArray, List.set_cons_zero, List.set_cons_succ])
  refine wpAnyF_take (i := 7) (oi := _) (v := ?_) rfl (by kernel_rfl) (by kernel_rfl) (by kernel_rfl) (by kernel_rfl) (fun _ _ _ h => h) (Or.inl ⟨by rfl, ?_⟩) (by assumption) ?_
  rotate_left 1
  · intro w hSw
    (try dsimp only at hSw)
    (first | (go_simp; done) | (go_simp; with_reducible rfl))
  (try simp only [Act.put, List.getElem_toArray, List.getElem_cons_succ, List.getElem_cons_zero, List.setIfInBounds_toArray, List.set_cons_zero, List.set_cons_succ])
  refine wpAnyF_take (i := 8) (oi := _) (v := ?_) rfl (by kernel_rfl) (by kernel_rfl) (by kernel_rfl) (by kernel_rfl) (fun _ _ _ h => h) (Or.inl ⟨by rfl, ?_⟩) (by assumption) ?_
  rotate_left 1
  · intro w hSw
    (try dsimp only at hSw)
    (first | (go_simp; done) | (go_simp; with_reducible rfl))
  (try simp only [Act.put, List.getElem_toArray, List.getElem_cons_succ, List.getElem_cons_zero, List.setIfInBounds_toArray, List.set_cons_zero, List.set_cons_succ])
  refine wpAnyF_take (i := 10) (oi := _) (v := ?_) rfl (by kernel_rfl) (by kernel_rfl) (by kernel_rfl) (by kernel_rfl) (fun _ _ _ h => h) (Or.inl ⟨by rfl, ?_⟩) (by assumption) ?_
  rotate_left 1
  · intro w hSw
    (try dsimp only at hSw)
    (first | (go_simp; done) | (go_simp; with_reducible rfl))
  (try simp only [Act.put, List.getElem_toArray, List.getElem_cons_succ, List.getElem_cons_zero, List.setIfInBounds_toArray, List.set_cons_zero, List.set_cons_succ])
  refine wpAnyF_take (i := 11) (oi := _) (v := ?_) rfl (by kernel_rfl) (by kernel_rfl) (by kernel_rfl) (by kernel_rfl) (fun _ _ _ h => h) (Or.inl ⟨by rfl, ?_⟩) (by assumption) ?_
  rotate_left 1
  · intro w hSw
    (try dsimp only at hSw)
    (first | (go_simp; done) | (go_simp; with_reducible rfl))
  (try simp only [Act.put, List.getElem_toArray, List.getElem_cons_succ, List.getElem_cons_zero, List.setIfInBounds_toArray, List.set_cons_zero, List.set_cons_succ])
  refine wpAnyF_take (i := 12) (oi := _) (v := ?_) rfl (by kernel_rfl) (by kernel_rfl) (by kernel_rfl) (by kernel_rfl) (fun _ _ _ h => h) (Or.inl ⟨by rfl, ?_⟩) (by assumption) ?_
  rotate_left 1
  · intro w hSw
    (try dsimp only at hSw)
    (first | (go_simp; done) | (go_simp; with_reducible rfl))
  (try simp only [Act.put, List.getElem_toArray, List.getElem_cons_succ, List.getElem_cons_zero, List.setIfInBounds_toArray, List.set_cons_zero, List.set_cons_succ])
  refine wpAnyF_take (i := 13) (oi := _) (v := ?_) rfl (by kernel_rfl) (by kernel_rfl) (by kernel_rfl) (by kernel_rfl) (fun _ _ _ h => h) (Or.inl ⟨by rfl, ?_⟩) (by assumption) ?_
  rotate_left 1
  · intro w hSw
    (try dsimp only at hSw)
    (first | (go_simp; done) | (go_simp; with_reducible rfl))
  (try simp only [Act.put, List.getElem_toArray, List.getElem_cons_succ, List.getElem_cons_zero, List.setIfInBounds_toArray, List.set_cons_zero, List.set_cons_succ])
  refine wpAnyF_take (i := 14) (oi := _) (v := ?_) rfl (by kernel_rfl) (by kernel_rfl) (by kernel_rfl) (by kernel_rfl) (fun _ _ _ h => h) (Or.inl ⟨by rfl, ?_⟩) (by assumption) ?_
  rotate_left 1
  · intro w hSw
    (try dsimp only at hSw)
    (first | (go_simp; done) | (go_simp; with_reducible rfl))
  (try simp only [Act.put, List.getElem_toArray, List.getElem_cons_succ, List.getElem_cons_zero, List.setIfInBounds_toArray, List.set_cons_zero, List.set_cons_succ])
  refine wpAnyF_ready (rs := [9]) (by kernel_rfl) (by simp) ?_
  refine AllReadyF.cons (o := _) rfl (fun K hK => ?_) AllReadyF.nil
  go_simp
  refine (HLN.out _ hHeld.1).mono ?_
  rintro e x2 ⟨rfl, rfl⟩
  refine hK.out _ _ (hHeld) (fun hHeld9 => ?_)
  clear hK K
  (try simp only [Act.put, List.getElem_toArray, List.getElem_cons_succ, List.getElem_cons_zero, List.setIfInBounds_toArray, List.set_cons_zero, List.set_cons_succ])
  refine wpAnyF_take (i := 15) (oi := _) (v := ?_) rfl (by kernel_rfl) (by kernel_rfl) (by kernel_rfl) (by kernel_rfl) (fun _ _ _ h => h) (Or.inl ⟨by rfl, ?_⟩) (by assumption) ?_
  rotate_left 1
  · intro w hSw
    (try dsimp only at hSw)
    (first | (go_simp; done) | (go_simp; with_reducible rfl))
  (try simp only [Act.put, List.getElem_toArray, List.getElem_cons_succ, List.getElem_cons_zero, List.setIfInBounds_toArray, List.set_cons_zero, List.set_cons_succ])
  refine wpAnyF_take (i := 16) (oi := _) (v := ?_) rfl (by kernel_rfl) (by kernel_rfl) (by kernel_rfl) (by kernel_rfl) (fun _ _ _ h => h) (Or.inl ⟨by rfl, ?_⟩) (by assumption) ?_
  rotate_left 1
  · intro w hSw
    (try dsimp only at hSw)
    (first | (go_simp; done) | (go_simp; with_reducible rfl))
  (try simp only [Act.put, List.getElem_toArray, List.getElem_cons_succ, List.getElem_cons_zero, List.setIfInBounds_toArray, List.set_cons_zero, List.set_cons_succ])
  refine wpAnyF_take (i := 17) (oi := _) (v := ?_) rfl (by kernel_rfl) (by kernel_rfl) (by kernel_rfl) (by kernel_rfl) (fun _ _ _ h => h) (Or.inl ⟨by rfl, ?_⟩) (by assumption) ?_
  rotate_left 1
  · intro w hSw
    (try dsimp only at hSw)
    (first | (go_simp; done) | (go_simp; with_reducible rfl))
  (try simp only [Act.put, List.getElem_toArray, List.getElem_cons_succ, List.getElem_cons_zero, List.setIfInBounds_toArray, List.set_cons_zero, List.set_cons_succ])
  refine wpAnyF_take (i := 18) (oi := _) (v := ?_) rfl (by kernel_rfl) (by kernel_rfl) (by kernel_rfl) (by kernel_rfl) (fun _ _ _ h => h) (Or.inl ⟨by rfl, ?_⟩) (by assumption) ?_
  rotate_left 1
  · intro w hSw
    (try dsimp only at hSw)
    (first | (go_simp; done) | (go_simp; with_reducible rfl))
  (try simp only [Act.put, List.getElem_toArray, List.getElem_cons_succ, List.getElem_cons_zero, List.setIfInBounds_toArray, List.set_cons_zero, List.set_cons_succ])
  refine wpAnyF_take (i := 20) (oi := _) (v := ?_) rfl (by kernel_rfl) (by kernel_rfl) (by kernel_rfl) (by kernel_rfl) (fun _ _ _ h => h) (Or.inl ⟨by rfl, ?_⟩) (by assumption) ?_
  rotate_left 1
  · intro w hSw
    (try dsimp only at hSw)
    (first | (go_simp; done) | (go_simp; with_reducible rfl))
  (try simp only [Act.put, List.getElem_toArray, List.getElem_cons_succ, List.getElem_cons_zero, List.setIfInBounds_toArray, List.set_cons_zero, List.set_cons_succ])
  refine wpAnyF_ready (rs := [19]) (by kernel_rfl) (by simp) ?_
  refine AllReadyF.cons (o := _) rfl (fun K hK => ?_) AllReadyF.nil
  go_simp
  refine (HPE.out _ hHeld.1).mono ?_
  rintro e x3 ⟨rfl, hx3⟩
  have HX3 := Lib.hid (HS.out _ (hHeld.1.trans (hx3.mono hHeld.1.size)))
  clear hx3
  refine hK.out _ _ (HX3.out) (fun hHeld19 => ?_)
  clear hK K
  (try simp only [Act.put, List.getElem_toArray, List.getElem_cons_succ, List.getElem_cons_zero, List.setIfInBounds_toArray, List.set_cons_zero, List.set_cons_succ])
  refine wpAnyF_ready (rs := [21]) (by kernel_rfl) (by simp) ?_
  refine AllReadyF.cons (o := _) rfl (fun K hK => ?_) AllReadyF.nil
  go_simp
  refine (HPR.out _ HX3.out.1).mono ?_
  rintro e x4 ⟨rfl, rfl⟩
  refine hK.out _ _ (HX3.out) (fun hHeld21 => ?_)
  clear hK K
  (try simp only [Act.put, List.getElem_toArray, List.getElem_cons_succ, List.getElem_cons_zero, List.setIfInBounds_toArray, List.set_cons_zero, List.set_cons_succ])
  refine wpAnyF_take (i := 22) (oi := _) (v := ?_) rfl (by kernel_rfl) (by kernel_rfl) (by kernel_rfl) (by kernel_rfl) (fun _ _ _ h => h) (Or.inl ⟨by rfl, ?_⟩) (by assumption) ?_
  rotate_left 1
  · intro w hSw
    (try dsimp only at hSw)
    (first | (go_simp; done) | (go_simp; with_reducible rfl))
  (try simp only [Act.put, List.getElem_toArray, List.getElem_cons_succ, List.getElem_cons_zero, List.setIfInBounds_toArray, List.set_cons_zero, List.set_cons_succ])
  refine wpAnyF_take (i := 23) (oi := _) (v := ?_) rfl (by kernel_rfl) (by kernel_rfl) (by kernel_rfl) (by kernel_rfl) (fun _ _ _ h => h) (Or.inl ⟨by rfl, ?_⟩) (by assumption) ?_
  rotate_left 1
  · intro w hSw
    (try dsimp only at hSw)
    (first | (go_simp; done) | (go_simp; with_reducible rfl))
  (try simp only [Act.put, List.getElem_toArray, List.getElem_cons_succ, List.getElem_cons_zero, List.setIfInBounds_toArray, List.set_cons_zero, List.set_cons_succ])
  refine wpAnyF_take (i := 24) (oi := _) (v := ?_) rfl (by kernel_rfl) (by kernel_rfl) (by kernel_rfl) (by kernel_rfl) (fun _ _ _ h => h) (Or.inl ⟨by rfl, ?_⟩) (by assumption) ?_
  rotate_left 1
  · intro w hSw
    (try dsimp only at hSw)
    (first | (go_simp; done) | (go_simp; with_reducible rfl))
  (try simp only [Act.put, List.getElem_toArray, List.getElem_cons_succ, List.getElem_cons_zero, List.setIfInBounds_toArray, List.set_cons_zero, List.set_cons_succ])
  refine wpAnyF_take (i := 25) (oi := _) (v := ?_) rfl (by kernel_rfl) (by kernel_rfl) (by kernel_rfl) (by kernel_rfl) (fun _ _ _ h => h) (Or.inl ⟨by rfl, ?_⟩) (by assumption) ?_
  rotate_left 1
  · intro w hSw
    (try dsimp only at hSw)
    (first | (go_simp; done) | (go_simp; with_reducible rfl))
  (try simp only [Act.put, List.getElem_toArray, List.getElem_cons_succ, List.getElem_cons_zero, List.setIfInBounds_toArray, List.set_cons_zero, List.set_cons_succ])
  refine wpAnyF_take (i := 28) (oi := _) (v := ?_) rfl (by kernel_rfl) (by kernel_rfl) (by kernel_rfl) (by kernel_rfl) (fun _ _ _ h => h) (Or.inl ⟨by rfl, ?_⟩) (by assumption) ?_
  rotate_left 1
  · intro w hSw
    (try dsimp only at hSw)
    (first | (go_simp; done) | (go_simp; with_reducible rfl))
  (try simp only [Act.put, List.getElem_toArray, List.getElem_cons_succ, List.getElem_cons_zero, List.setIfInBounds_toArray, List.set_cons_zero, List.set_cons_succ])
  refine wpAnyF_take (i := 29) (oi := _) (v := ?_) rfl (by kernel_rfl) (by kernel_rfl) (by kernel_rfl) (by kernel_rfl) (fun _ _ _ h => h) (Or.inl ⟨by rfl, ?_⟩) (by assumption) ?_
  rotate_left 1
  · intro w hSw
    (try dsimp only at hSw)
    (first | (go_simp; done) | (go_simp; with_reducible rfl))
  (try simp only [Act.put, List.getElem_toArray, List.getElem_cons_succ, List.getElem_cons_zero, List.setIfInBounds_toArray, List.set_cons_zero, List.set_cons_succ])
  refine wpAnyF_take (i := 30) (oi := _) (v := ?_) rfl (by kernel_rfl) (by kernel_rfl) (by kernel_rfl) (by kernel_rfl) (fun _ _ _ h => h) (Or.inl ⟨by rfl, ?_⟩) (by assumption) ?_
  rotate_left 1
  · intro w hSw
    (try dsimp only at hSw)
    (first | (go_simp; done) | (go_simp; with_reducible rfl))
  (try simp only [Act.put, List.getElem_toArray, List.getElem_cons_succ, List.getElem_cons_zero, List.setIfInBounds_toArray, List.set_cons_zero, List.set_cons_succ])
  refine wpAnyF_take (i := 31) (oi := _) (v := ?_) rfl (by kernel_rfl) (by kernel_rfl) (by kernel_rfl) (by kernel_rfl) (fun _ _ _ h => h) (Or.inl ⟨by rfl, ?_⟩) (by assumption) ?_
  rotate_left 1
  · intro w hSw
    (try dsimp only at hSw)
    (first | (go_simp; done) | (go_simp; with_reducible rfl))
  (try simp only [Act.put, List.getElem_toArray, List.getElem_cons_succ, List.getElem_cons_zero, List.setIfInBounds_toArray, List.set_cons_zero, List.set_cons_succ])
  refine wpAnyF_take (i := 32) (oi := _) (v := ?_) rfl (by kernel_rfl) (by kernel_rfl) (by kernel_rfl) (by kernel_rfl) (fun _ _ _ h => h) (Or.inl ⟨by rfl, ?_⟩) (by assumption) ?_
  rotate_left 1
  · intro w hSw
    (try dsimp only at hSw)
    (first | (go_simp; done) | (go_simp; with_reducible rfl))
  (try simp only [Act.put, List.getElem_toArray, List.getElem_cons_succ, List.getElem_cons_zero, List.setIfInBounds_toArray, List.set_cons_zero, List.set_cons_succ])
  refine wpAnyF_ready (rs := [26]) (by kernel_rfl) (by simp) ?_
  refine AllReadyF.cons (o := _) rfl (fun K hK => ?_) AllReadyF.nil
  go_simp
  refine (HIM.out _ HX3.out.1).mono ?_
  rintro e x5 ⟨v5, rfl, ho5, hb5⟩
  have HX5 := Lib.hid (HS.out _ (HX3.out.1.trans (hb5.mono HX3.out.1.size)))
  obtain ⟨A5, c5, rfl, hs5⟩ := ho5.bs HBL.out
  have hcv : (convert 28 9 (.slice A5 (lastsL s.ws).length c5)).run Try.prog x5 = .ok (.string X) x5 := by rw [HX.out]; exact hs5.conv _ 5 _ Try.underlying28 Try.underlying5 Try.underlying9
  clear ho5 hb5 hs5
  refine hK.out _ _ (HX5.out) (fun hHeld26 => ?_)
  clear hK K
  (try simp only [Act.put, List.getElem_toArray, List.getElem_cons_succ, List.getElem_cons_zero, List.setIfInBounds_toArray, List.set_cons_zero, List.set_cons_succ])
  refine wpAnyF_ready (rs := [27]) (by kernel_rfl) (by simp) ?_
  refine AllReadyF.cons (o := _) rfl (fun K hK => ?_) AllReadyF.nil
  go_simp
  refine hK.out _ _ (HX5.out) (fun hHeld27 => ?_)
  clear hK K
  (try simp only [Act.put, List.getElem_toArray, List.getElem_cons_succ, List.getElem_cons_zero, List.setIfInBounds_toArray, List.set_cons_zero, List.set_cons_succ])
  refine wpAnyF_take (i := 33) (oi := _) (v := ?_) rfl (by kernel_rfl) (by kernel_rfl) (by kernel_rfl) (by kernel_rfl) (fun _ _ _ h => h) (Or.inl ⟨by rfl, ?_⟩) (by assumption) ?_
  rotate_left 1
  · intro w hSw
    (try dsimp only at hSw)
    (first | (go_simp; done) | (go_simp; with_reducible rfl))
  (try simp only [Act.put, List.getElem_toArray, List.getElem_cons_succ, List.getElem_cons_zero, List.setIfInBounds_toArray, List.set_cons_zero, List.set_cons_succ])
  refine wpAnyF_take (i := 34) (oi := _) (v := ?_) rfl (by kernel_rfl) (by kernel_rfl) (by kernel_rfl) (by kernel_rfl) (fun _ _ _ h => h) (Or.inl ⟨by rfl, ?_⟩) (by assumption) ?_
  rotate_left 1
  · intro w hSw
    (try dsimp only at hSw)
    (first | (go_simp; done) | (go_simp; with_reducible rfl))
  (try simp only [Act.put, List.getElem_toArray, List.getElem_cons_succ, List.getElem_cons_zero, List.setIfInBounds_toArray, List.set_cons_zero, List.set_cons_succ])
  refine wpAnyF_done (by kernel_rfl) ?_ _
  clear hcv
  have HB5 : Hid (Below w.heap.size w x5) := Lib.hid HX5.out.1
  clear HX3 HX5 hHeld
  have HAC := Lib.hid (acts_P g b L c av pv s x5 (HH.out.1.next HB5.out) (by have := HKK.out; omega))
  go_wp2_with fail
  refine HAC.out.mono ?_
  rintro e w6 ⟨v6, rfl, ho6, hb6⟩
  have HB6 : Hid (Below w.heap.size w w6) := Lib.hid (HB5.out.trans (hb6.mono HB5.out.size))
  rw [← HKK.out.1] at ho6
  obtain ⟨A6, c6, rfl⟩ := rowJ ho6
  have h26 := HH.out.2.next HB6.out
  have ho7 := h26.w.own
  rw [← HKK.out.1] at ho7
  obtain ⟨A7, c7, hav2⟩ := rowJ ho7
  have k7 : w6.cell? ⟨r.g, 7, none⟩ = some (.slice A7 k c7) := by rw [← hav2]; exact h26.w.cell 7
  rw [hav2] at ho7
  have HO6 := Lib.hid ho6
  have HO7 := Lib.hid ho7
  have HR0 : Hid (SaR w6 k (.int .i64 0) w6) := Lib.hid ⟨0, rfl, by omega, Below.refl _ _⟩
  clear ho6 hb6 h26 ho7 hav2 HAC
  go_wp2_with fail
  clear k7
  go_loopw [62] (fun iv wr => SaR w6 k iv wr) (fun iv _ => (k - (intOf iv).toNat))
  case atStart => exact HR0.out
  case round =>
    clear HR0
    obtain ⟨i, rfl, hik, hb⟩ := hrel
    have HB := Lib.hid hb
    by_cases hlt : i < k
    · have hlti : (i : Int) < (k : Int) := by omega
      have hk9 := HKK.out.2
      have hk8 := HKK.out.1
      have hi9 : i ≤ 16384 := by omega
      have hwi : IntKind.i64.wrap ((i : Int) + 1) = (i : Int) + 1 := IntWalk.i64_in _ ⟨by omega, by omega⟩
      obtain ⟨ga, rfl⟩ : ∃ ga, A6 = some ⟨ga, 0, none⟩ := own_some HO6.out (by omega)
      obtain ⟨gb, rfl⟩ : ∃ gb, A7 = some ⟨gb, 0, none⟩ := own_some HO7.out (by omega)
      obtain ⟨z0, z1, z2, hz0, hz1, hz2⟩ := ints_three HIA.out HO6.out.1 hlt
      have hga := (World.ownsRow.lt HO6.out ga rfl).2
      have hgb := (World.ownsRow.lt HO7.out gb rfl).2
      have a0 : wr.cell? ⟨ga, i * 3, none⟩ = some (.int .i64 z0) := (hb.cell (p := ⟨ga, i * 3, none⟩) hga).trans (own_cell HO6.out hz0)
      have a1 : wr.cell? ⟨ga, i * 3 + 1, none⟩ = some (.int .i64 z1) := (hb.cell (p := ⟨ga, i * 3 + 1, none⟩) hga).trans (own_cell HO6.out hz1)
      have a2 : wr.cell? ⟨ga, i * 3 + 2, none⟩ = some (.int .i64 z2) := (hb.cell (p := ⟨ga, i * 3 + 2, none⟩) hga).trans (own_cell HO6.out hz2)
      have b0 : wr.cell? ⟨gb, i * 3, none⟩ = some (.int .i64 z0) := (hb.cell (p := ⟨gb, i * 3, none⟩) hgb).trans (own_cell HO7.out hz0)
      have b1 : wr.cell? ⟨gb, i * 3 + 1, none⟩ = some (.int .i64 z1) := (hb.cell (p := ⟨gb, i * 3 + 1, none⟩) hgb).trans (own_cell HO7.out hz1)
      have b2 : wr.cell? ⟨gb, i * 3 + 2, none⟩ = some (.int .i64 z2) := (hb.cell (p := ⟨gb, i * 3 + 2, none⟩) hgb).trans (own_cell HO7.out hz2)
      have hgal : ga < wr.heap.size := Nat.lt_of_lt_of_le hga hb.size
      have hgbl : gb < wr.heap.size := Nat.lt_of_lt_of_le hgb hb.size
      have HG : Hid (∀ m, SaR w6 k (.int .i64 ((i : Int) + 1)) ((wr.alloc (.cells #[.int .i64 z0, .int .i64 z1, .int .i64 z2] RaT)).drewN m)) := Lib.hid (fun m => ⟨i + 1, by simp, by omega, below_drewN (hb.alloc hb.size _) m⟩)
      have hal := heap_alloc_new wr (.cells #[.int .i64 z0, .int .i64 z1, .int .i64 z2] RaT)
      have d0 : (wr.alloc (.cells #[.int .i64 z0, .int .i64 z1, .int .i64 z2] RaT)).cell? ⟨wr.heap.size, 0, none⟩ = some (.int .i64 z0) := blk_cell hal 0
      have d1 : (wr.alloc (.cells #[.int .i64 z0, .int .i64 z1, .int .i64 z2] RaT)).cell? ⟨wr.heap.size, 1, none⟩ = some (.int .i64 z1) := blk_cell hal 1
      have d2 : (wr.alloc (.cells #[.int .i64 z0, .int .i64 z1, .int .i64 z2] RaT)).cell? ⟨wr.heap.size, 2, none⟩ = some (.int .i64 z2) := blk_cell hal 2
      clear hb hk9 hk8 hz0 hz1 hz2 hga hgb hal
      go_upto_region 9 with (fail)
      go_quiet (fail)
      go_wp2_with fail
      go_roundw
      case rel => exact HG.out _
      case measure => simp [intOf]; omega
    · have hlti : ¬ (i : Int) < (k : Int) := by omega
      have HBW : Hid (Below w.heap.size w wr) := Lib.hid (HB6.out.trans (hb.mono HB6.out.size))
      have hpz : PD wr g b L c av pv s ∧ RV wr r L N M kv av2 pl s := ⟨HH.out.1.next HBW.out, HH.out.2.next HBW.out⟩
      have HP := Lib.hid hpz
      clear hb hpz
      have HLP := Lib.hid (load_P g b L c 0 (N : Int) av pv s wr HP.out.1)
      have HL9 := Lib.hid (HLN.out wr HBW.out)
      obtain ⟨q, hq⟩ : ∃ q, q = refS8 L s.off 0 (N : Int) := ⟨_, rfl⟩
      obtain ⟨T, hT⟩ : ∃ T, T = ldL s L 0 (N : Int) := ⟨_, rfl⟩
      rw [← hq, ← hT] at HLP
      have HTB : Hid (∀ i, T.getD i 0 < 256) := Lib.hid (by rw [hT]; exact ldL_b HP.out.1.m.mem.1 _ _ _)
      have HQT := Lib.hid (And.intro hq hT)
      clear hq hT
      go_wp2_with fail
      refine HL9.out.mono ?_
      rintro e y1 ⟨rfl, rfl⟩
      go_wp2_with fail
      refine HLP.out.mono ?_
      rintro e w8 ⟨v8, rfl, ho8, hb8⟩
      have HB8 : Hid (Below w.heap.size w w8) := Lib.hid (HBW.out.trans (hb8.mono HBW.out.size))
      have HLR := Lib.hid (load_R r L N M kv av2 pl s 0 (N : Int) (by have := HNN.out; have := HP.out.1.m.L1; omega) w8 (HH.out.2.next HB8.out))
      rw [← HQT.out.1, ← HQT.out.2] at HLR
      have k1 : w8.cell? ⟨r.g, 1, none⟩ = some (.slice (some ⟨r.bn, 0, none⟩) N N) := (HH.out.2.next HB8.out).w.cell 1
      obtain ⟨A8, c8, rfl, hs8⟩ := ho8.bs HTB.out
      have HS8 := Lib.hid hs8
      clear ho8 hb8 hs8 HLP HL9
      generalize T.length = m8 at *
      go_wp2_with fail
      refine HLR.out.mono ?_
      rintro e w9 ⟨v9, rfl, ho9, hb9⟩
      have HB9 : Hid (Below w.heap.size w w9) := Lib.hid (HB8.out.trans (hb9.mono HB8.out.size))
      obtain ⟨A9, c9, rfl, hs9⟩ := ho9.bs HTB.out
      have hc8 : (convert 28 9 (.slice A8 m8 c8)).run Try.prog w9 = .ok (.string (str T)) w9 := ((HS8.out.below hb9).more hb9.size).conv _ 5 _ Try.underlying28 Try.underlying5 Try.underlying9
      have hm8 : T.length = m8 := HS8.out.len
      rw [hm8] at hs9
      have hc9 : (convert 28 9 (.slice A9 m8 c9)).run Try.prog w9 = .ok (.string (str T)) w9 := hs9.conv _ 5 _ Try.underlying28 Try.underlying5 Try.underlying9
      rw [hm8]
      generalize str T = ST at *
      clear ho9 hb9 hs9 hm8 k1 HLR
      go_wp2
      go_ret
      exact ⟨rfl, HB9.out⟩
end
section
open Go.RowKit Go Go.WideShapes Go.ChangeShapes Go.Deep
set_option linter.unusedVariables false
set_option linter.unusedSimpArgs false
set_option maxRecDepth 100000
/-- places that an int can tell -/
def Fit8 (o : O8) : Prop := (-9223372036854775808 ≤ o.at_ ∧ o.at_ ≤ 9223372036854775807) ∧ (-9223372036854775808 ≤ o.n ∧ o.n ≤ 9223372036854775807)
theorem fit8_z : Fit8 o8Z := by unfold Fit8 o8Z; decide
/-- a slice of calls, nil or not: each one's cells, bytes and picks -/
def O8W (w : World) (A : Option Addr) (n : Nat) (l : List O8) : Prop := l.length = n ∧ ∀ i, i < n → ∃ b o A1 c1 A2 c2, A = some ⟨b, o, none⟩ ∧ b < w.heap.size ∧
    w.cell? ⟨b, o + i * 5 + 0, none⟩ = some (.int .i64 (o8At l i).kind) ∧ w.cell? ⟨b, o + i * 5 + 1, none⟩ = some (.int .i64 (o8At l i).at_) ∧ w.cell? ⟨b, o + i * 5 + 2, none⟩ = some (.int .i64 (o8At l i).n) ∧
    w.cell? ⟨b, o + i * 5 + 3, none⟩ = some (.slice A1 (o8At l i).b.length c1) ∧ w.cell? ⟨b, o + i * 5 + 4, none⟩ = some (.slice A2 (o8At l i).p.length c2) ∧
    BS w w.heap.size A1 (o8At l i).b.length c1 (o8At l i).b ∧ BS w w.heap.size A2 (o8At l i).p.length c2 (o8At l i).p ∧ (A1 = none → c1 = 0) ∧ (A2 = none → c2 = 0) ∧ Fit8 (o8At l i)
section
variable {H : Type} {enc : TypeId × Value → H} {w : World}
theorem bs_cellN {v : Value} {fuel : Nat} {y : DataW H × List MemPlace} (h : DataW.trod enc Try.prog w 0 (fun _ => true) true fuel 28 [v] = some y) : ∃ A n c l, v = .slice A n c ∧ BS w w.heap.size A n c l ∧ (A = none → c = 0) := by
  rcases open_ints Try.underlying28 Try.underlying5 (by kernel_rfl) h with ⟨hcs, _⟩ | ⟨x, l, c, zs, hcs, _, hl, hm, hz, _, hcell, hwz⟩
  · injection hcs with hcs
    subst hcs
    exact ⟨none, 0, 0, [], rfl, BS.nil _ _, fun _ => rfl⟩
  · injection hcs with hcs
    subst hcs
    obtain ⟨q, hq⟩ := BS.of_row (.inr ⟨x, rfl, hl, hm, by simpa using hz, hcell, hwz⟩)
    exact ⟨some x, l, c, q, rfl, hq, fun e => by cases e⟩
theorem ops8_openF {A : Option Addr} {n c : Nat} {d : DataW H} {p : List MemPlace} (h : DataW.Trod enc Try.prog w 0 (fun _ => true) true 22 (.slice A n c) d p) : ∃ l, O8W w A n l ∧ n ≤ c ∧ c ≤ 9223372036854775807 := by
  obtain ⟨h1, h2, h3, _⟩ := fields_open Try.underlying22 Try.underlying30 (by kernel_rfl) (by kernel_rfl) (by decide) h
  have hn9 : c ≤ 9223372036854775807 := by unfold maxLen at h3; omega
  rcases Nat.eq_zero_or_pos n with h0 | h0
  · exact ⟨[], ⟨h0.symm, fun i hi => absurd hi (by omega)⟩, h2, hn9⟩
  obtain ⟨b, o, hA, hb, hf⟩ := h1 h0
  have key : ∀ i, ∃ r : O8, Fit8 r ∧ (i < n → ∃ A' c' P' d', (∀ j v, (o8L r A' c' P' d')[j]? = some v → w.cell? ⟨b, o + i * 5 + j, none⟩ = some v) ∧ BS w w.heap.size A' r.b.length c' r.b ∧ BS w w.heap.size P' r.p.length d' r.p ∧ (A' = none → c' = 0) ∧ (P' = none → d' = 0)) := fun i => by
    by_cases hi : i < n
    · obtain ⟨v0, _, y0, c0, t0⟩ := hf i hi 0 _ rfl
      obtain ⟨v1, _, y1, c1, t1⟩ := hf i hi 1 _ rfl
      obtain ⟨v2, _, y2, c2, t2⟩ := hf i hi 2 _ rfl
      obtain ⟨v3, _, y3, c3, t3⟩ := hf i hi 3 _ rfl
      obtain ⟨v4, _, y4, c4, t4⟩ := hf i hi 4 _ rfl
      obtain ⟨z0, e0, _, w0⟩ := DataW.trod_int Try.underlying3 t0
      obtain ⟨z1, e1, _, w1⟩ := DataW.trod_int Try.underlying3 t1
      obtain ⟨z2, e2, _, w2⟩ := DataW.trod_int Try.underlying3 t2
      injection e0 with e0
      injection e1 with e1
      injection e2 with e2
      obtain ⟨A1, n1, c1', l1, rfl, b1, g1⟩ := bs_cellN t3
      obtain ⟨A2, n2, c2', l2, rfl, b2, g2⟩ := bs_cellN t4
      have hl1 := b1.len
      have hl2 := b2.len
      subst hl1 hl2
      subst e0 e1 e2
      refine ⟨⟨z0, z1, z2, l1, l2⟩, ⟨bounds_i64 w1, bounds_i64 w2⟩, fun _ => ⟨A1, c1', A2, c2', fun j v hj => ?_, b1, b2, g1, g2⟩⟩
      rw [Nat.add_assoc]
      match j, hj with
      | 0, hj => have := Option.some.inj hj; subst this; exact c0
      | 1, hj => have := Option.some.inj hj; subst this; exact c1
      | 2, hj => have := Option.some.inj hj; subst this; exact c2
      | 3, hj => have := Option.some.inj hj; subst this; exact c3
      | 4, hj => have := Option.some.inj hj; subst this; exact c4
      | j + 5, hj => simp [o8L] at hj
    · exact ⟨o8Z, fit8_z, fun h => absurd h hi⟩
  obtain ⟨R, hR⟩ := Classical.axiomOfChoice key
  have hget : ∀ i, i < n → o8At ((List.range n).map R) i = R i := fun i hi => by
    unfold o8At
    rw [List.getD_eq_getElem?_getD, List.getElem?_map, List.getElem?_range hi]; rfl
  refine ⟨(List.range n).map R, ⟨by simp, fun i hi => ?_⟩, h2, hn9⟩
  rw [hget i hi]
  obtain ⟨A1, c1, A2, c2, k1, k2, k3, k4, k5⟩ := (hR i).2 hi
  exact ⟨b, o, A1, c1, A2, c2, hA, hb, k1 0 _ rfl, k1 1 _ rfl, k1 2 _ rfl, k1 3 _ rfl, k1 4 _ rfl, k2, k3, k4, k5, (hR i).1⟩
end
/-- a call of which nothing is too long -/
def O8.cut (o : O8) : O8 := ⟨o.kind, o.at_, o.n, o.b.take 150, o.p.take 12⟩
/-- what a call makes of a state -/
def stS (o : O8) (L : Nat) (s : DSt) : DSt :=
  if o.kind = 0 ∨ o.kind = 1 ∨ o.kind = 2 then actS s L 1 o.at_ (o.b.length : Int) (putW Wd.st o.at_.toNat o.b s.ws)
  else if o.kind = 3 ∨ o.kind = 4 then actS s L 2 o.at_ o.n (flushW o.at_.toNat o.n.toNat s.ws)
  else if o.kind = 5 then actS s L 3 0 0 (turnW (fun _ => Wd.fe) 0 (8 * L) s.ws)
  else if o.kind = 6 then actS s L 4 0 0 s.ws
  else if o.kind = 7 then s.crash L o.p
  else if o.kind = 8 then s.on
  else if o.kind = 9 then s.arm o.n o.p
  else if o.kind = 10 then s.tamper L o.at_ o.b.length o.b
  else s
/-- do the answers agree? -/
def stB (o : O8) (L : Nat) (s t : DSt) : Bool :=
  if o.kind = 0 ∨ o.kind = 1 ∨ o.kind = 2 then actE s L o.at_ (o.b.length : Int) == actE t L o.at_ (o.b.length : Int)
  else if o.kind = 3 ∨ o.kind = 4 then actE s L o.at_ o.n == actE t L o.at_ o.n
  else if o.kind = 5 ∨ o.kind = 6 then actE s L 0 0 == actE t L 0 0
  else if o.kind = 10 then true
  else (refS8 L (stS o L s).off o.at_ o.n == refS8 L (stS o L t).off o.at_ o.n) && ((str (ldL (stS o L s) L o.at_ o.n)).toList == (str (ldL (stS o L t) L o.at_ o.n)).toList)
theorem stB_same (o : O8) (L : Nat) (s : DSt) : stB o L s s = true := by
  unfold stB
  split
  · exact beq_self_eq_true _
  · split
    · exact beq_self_eq_true _
    · split
      · exact beq_self_eq_true _
      · split
        · rfl
        · rw [beq_self_eq_true, beq_self_eq_true]; rfl
theorem actS_k (s : DSt) (L : Nat) (kd a n : Int) (ws : List Wd) : (actS s L kd a n ws).k ≤ s.k + 1 := by
  unfold actS
  split
  · omega
  · split
    · split
      · show s.k ≤ _; omega
      · exact Nat.le_refl _
    · omega
theorem stS_k (o : O8) (L : Nat) (s : DSt) : (stS o L s).k ≤ s.k + 1 := by
  unfold stS
  split
  · exact actS_k ..
  · split
    · exact actS_k ..
    · split
      · exact actS_k ..
      · split
        · exact actS_k ..
        · split
          · unfold DSt.crash; split
            · omega
            · show s.k ≤ _; omega
          · split
            · show s.k ≤ _; omega
            · split
              · show s.k ≤ _; omega
              · split
                · show s.k ≤ _; omega
                · omega
theorem actS_ints (s : DSt) (L : Nat) (kd a n : Int) (ws : List Wd) (h : IntsA s.al) : IntsA (actS s L kd a n ws).al := by
  unfold actS
  split
  · exact h
  · split
    · split
      · exact h
      · intro x hx
        rcases List.mem_append.1 hx with q | q
        · exact h x q
        · simp only [actV, List.mem_cons, List.not_mem_nil, or_false] at q
          rcases q with rfl | rfl | rfl <;> exact ⟨_, rfl⟩
    · exact h
theorem stS_ints (o : O8) (L : Nat) (s : DSt) (h : IntsA s.al) : IntsA (stS o L s).al := by
  unfold stS
  split
  · exact actS_ints _ _ _ _ _ _ h
  · split
    · exact actS_ints _ _ _ _ _ _ h
    · split
      · exact actS_ints _ _ _ _ _ _ h
      · split
        · exact actS_ints _ _ _ _ _ _ h
        · split
          · unfold DSt.crash; split <;> exact h
          · split
            · exact h
            · split
              · exact h
              · split
                · exact h
                · exact h
end
end Go.Proofs.Ythigknolpdohoaa
