/-
  Apply of package ctr; CtrBack's walk.
-/
import Derived.Test.YtimonlkelgpekaaCtrM
import Derived.Test.YtimonlkelgpekaaXorA
import Derived.Test.YtimonlkelgpekaaStr
namespace Go.Proofs.Ytimonlkelgpekaa
open Go.RowKit Go
set_option linter.unusedVariables false
set_option linter.unusedSimpArgs false
attribute [local irreducible] Gf.inv Gf.tm Gf.pw Gf.spread Gf.sub Gf.boxAt Gf.bk Gf.rm Gf.bit
theorem nat_u32 {z : Int} (h : (Lit.int .u32 z).wf = true) : ∃ n : Nat, n < 4294967296 ∧ z = (n : Int) := by
  have := bounds_u32 h
  exact ⟨z.toNat, by omega, by omega⟩
/-- a slice of its own, of n bytes, that reads as l -/
def GivesTo (w : World) (n : Nat) (l : List Nat) (e : Ending) (w' : World) : Prop :=
  ∃ A c, e = .returned (.slice A n c) ∧ Below w.heap.size w w' ∧ BS w' w'.heap.size A n c l
theorem xor_to (A A2 : Option Addr) (n c n2 c2 k : Nat) (l l2 : List Nat) (w : World) (hs : BS w w.heap.size A n c l) (hs2 : BS w w.heap.size A2 n2 c2 l2) (hn : n ≤ 1000) (hn2 : n2 ≤ 1000) (hk : min n n2 = k) :
    Calls Try.prog 46 #[.slice A n c, .slice A2 n2 c2] w (GivesTo w k (xorL l l2)) :=
  (xor_any A A2 n c n2 c2 l l2 w hs hs2 hn hn2).mono fun _ _ ⟨A', c', he, hb, hx⟩ => by
    have e : (xorL l l2).length = k := by rw [xorL_len, hs.len, hs2.len, hk]
    rw [e] at he hx
    exact ⟨A', c', he, hb, hx⟩
def stmL (ks : List Nat) (N e b n : Nat) : List Nat := (List.range n).map (strm ks N e b)
theorem stmL_len (ks : List Nat) (N e b n : Nat) : (stmL ks N e b n).length = n := by simp [stmL]
theorem strm_byte {ks : List Nat} {N e b : Nat} (hks : ∀ j, ks.getD j 0 < 256) (i : Nat) : strm ks N e b i < 256 :=
  (Aes.ok_enc (fun c h => Gf.sub_lt h) hks ⟨ctrL_len e b (i / 16), fun j => ctrL_byte e b (i / 16) j⟩).byte _
theorem stmL_byte {ks : List Nat} {N e b n : Nat} (hks : ∀ j, ks.getD j 0 < 256) (i : Nat) : (stmL ks N e b n).getD i 0 < 256 := by
  unfold stmL
  rw [getD_map_range]
  split
  · exact strm_byte hks i
  · omega
theorem stream_bs (g N e b n : Nat) (ks : List Nat) (h1 : 1 ≤ n) (hn : n ≤ 65536) (he : e < 2 ^ 64) (hb : b < 4294967296) (w : World) (hC : CipR w g N ks) (hks : ∀ j, ks.getD j 0 < 256) (hN : 1 ≤ N ∧ N ≤ 14) :
    Calls Try.prog 24 #[.pointer (some ⟨g, 0, none⟩), .int .u64 (e : Int), .int .u32 (b : Int), .int .i64 (n : Int)] w (GivesTo w n (stmL ks N e b n)) :=
  (callsIn_wide.1 (stream_in g N e b n ks h1 hn he hb w hC hks hN)).mono fun en w' h => by
    refine ⟨_, _, h.1, h.2.1, BS.of_blk h.2.2 (Row.lt h.2.2) (stmL_len _ _ _ _ _) (Nat.le_refl _) (by omega) (fun i => stmL_byte hks i) (fun i hi => ?_)⟩
    rw [rowV_at _ hi]
    unfold stmL
    rw [getD_map_range, if_pos hi]
    rfl
set_option maxHeartbeats 1000000 in
theorem apply_any (g N e b n c : Nat) (A : Option Addr) (l ks : List Nat) (hn : n ≤ 300) (he : e < 2 ^ 64) (hb : b < 4294967296) (w : World) (hC : CipR w g N ks) (hks : ∀ j, ks.getD j 0 < 256) (hN : 1 ≤ N ∧ N ≤ 14) (hs : BS w w.heap.size A n c l) :
    Calls Try.prog 23 #[.pointer (some ⟨g, 0, none⟩), .int .u64 (e : Int), .int .u32 (b : Int), .slice A n c] w (GivesTo w n (xorL l (stmL ks N e b n))) := by
  rcases Nat.eq_zero_or_pos n with h0 | h0
  · subst h0
    have HX := Lib.hid (fun W (h : BS W W.heap.size A 0 c l) => xor_to A none 0 c 0 0 0 l [] W h (BS.nil _ _) (by omega) (by omega) rfl)
    have HS := Lib.hid hs
    have hl : stmL ks N e b 0 = [] := rfl
    rw [hl]
    have HN := Lib.hid (fun W => stream_no (.pointer (some ⟨g, 0, none⟩)) (e : Int) (b : Int) 0 (.inl (by omega)) W)
    clear hs hC hks hl
    go_enter Try.func23, Try.ntmps23
    go_wp2_with fail
    refine (HN.out _).mono ?_
    rintro en w1 ⟨rfl, rfl⟩
    go_wp2_with fail
    refine (HX.out _ HS.out).mono ?_
    rintro en w2 ⟨A2, c2, rfl, hb2, hx2⟩
    go_wp2
    go_ret
    exact ⟨_, _, rfl, hb2, hx2⟩
  · have HS := Lib.hid hs
    have HN := Lib.hid (stream_bs g N e b n ks h0 (by omega) he hb w hC hks hN)
    have HX := Lib.hid (fun A2 c2 W (h : BS W W.heap.size A n c l) (h2 : BS W W.heap.size A2 n c2 (stmL ks N e b n)) => xor_to A A2 n c n c2 n l _ W h h2 (by omega) (by omega) (Nat.min_self n))
    clear hs hC hks he hb
    generalize stmL ks N e b n = sl at *
    go_enter Try.func23, Try.ntmps23
    go_wp2_with fail
    refine HN.out.mono ?_
    rintro en w1 ⟨A1, c1, rfl, hb1, hx1⟩
    have HB1 := Lib.hid hb1
    have HS1 := Lib.hid ((HS.out.below hb1).more hb1.size)
    have HX1 := Lib.hid hx1
    clear hb1 hx1
    go_wp2_with fail
    refine (HX.out A1 c1 w1 HS1.out HX1.out).mono ?_
    rintro en w2 ⟨A2, c2, rfl, hb2, hx2⟩
    have HB2 := Lib.hid (HB1.out.trans (hb2.mono HB1.out.size))
    have HX2 := Lib.hid hx2
    clear hb2 hx2
    go_wp2
    go_ret
    exact ⟨_, _, rfl, HB2.out, HX2.out⟩
theorem short6_yes (A : Option Addr) (n c : Nat) (h : n ≤ 300) (w : World) : Calls Try.prog 21 #[.slice A n c] w fun e w' => e = .returned (.slice A n c) ∧ w = w' := by
  have h1 : ¬ (300 : Int) < (n : Int) := by omega
  go_enter Try.func21, Try.ntmps21
  go_wp2
  go_ret
  exact ⟨rfl, rfl⟩
theorem short6_no (A : Option Addr) (n c : Nat) (h : 300 < n) (hc : n ≤ c) (w : World) : Calls Try.prog 21 #[.slice A n c] w fun e w' => e = .returned (.slice A 300 c) ∧ w = w' := by
  have h1 : (300 : Int) < (n : Int) := by omega
  have h2 : (300 : Nat) ≤ c := by omega
  have h3 : (300 : Int) ≤ (c : Int) := by omega
  go_enter Try.func21, Try.ntmps21
  go_wp2
  go_ret
  exact ⟨rfl, rfl⟩
theorem short6_any (A : Option Addr) (n c : Nat) (l : List Nat) (w : World) (h : BS w w.heap.size A n c l) :
    Calls Try.prog 21 #[.slice A n c] w fun e w' => ∃ m, e = .returned (.slice A m c) ∧ m ≤ 300 ∧ BS w w.heap.size A m c (l.take 300) ∧ w = w' := by
  by_cases hn : n ≤ 300
  · refine (short6_yes A n c hn w).mono ?_
    rintro e w' ⟨rfl, rfl⟩
    exact ⟨n, rfl, hn, by rw [List.take_of_length_le (by rw [h.len]; exact hn)]; exact h, rfl⟩
  · refine (short6_no A n c (by omega) h.cap.1 w).mono ?_
    rintro e w' ⟨rfl, rfl⟩
    exact ⟨300, rfl, by omega, h.take (by omega), rfl⟩
/-- New of any key of 16 bytes that lies in a block of its own -/
theorem newk (la : List Nat) (ha2 : ∀ i, la.getD i 0 < 256) : ∃ ks : List Nat, (∀ j, ks.getD j 0 < 256) ∧ ∀ gb b w, IsBox w gb → BS w w.heap.size (some ⟨b, 0, none⟩) 16 16 la →
    Calls Try.prog 12 #[.pointer (some ⟨gb, 0, none⟩), .slice (some ⟨b, 0, none⟩) 16 16] w fun e w' => e = .returned (.tuple #[.pointer (some ⟨w.heap.size, 0, none⟩), .int .i64 0]) ∧ CipR w' w.heap.size 10 ks ∧ Below w.heap.size w w' :=
  ⟨Aes.sch Gf.sub la 4 44, fun j => Aes.sch_byte (fun c h => Gf.sub_lt h) ha2 _ _, fun gb b w h1 h2 => new_16 gb b 0 16 _ w h1 h2⟩
set_option maxHeartbeats 1000000 in
set_option maxRecDepth 100000 in
theorem ctrBack_any (la : List Nat) (ha : la.length = 16) (ha2 : ∀ i, la.getD i 0 < 256) (e b n c : Nat) (he : e < 2 ^ 64) (hb : b < 4294967296) (A : Option Addr) (l : List Nat) (w : World) (hs : BS w w.heap.size A n c l) :
    Calls Try.prog 9 #[.agg (rowV (bF la) 16), .int .u64 (e : Int), .int .u32 (b : Int), .slice A n c] w fun e w' => e = .returned (.bool true) ∧ Below w.heap.size w w' := by
  obtain ⟨ks, hks, hnew⟩ := newk la ha2
  have HNEW := Lib.hid hnew
  have hb0 : Below w.heap.size w (w.alloc (.cells (rowV (bF la) 16) 22)) := (Below.refl _ _).alloc (Nat.le_refl _) _
  have hra := heap_alloc_new w (.cells (rowV (bF la) 16) 22)
  have hka : BS (w.alloc (.cells (rowV (bF la) 16) 22)) (w.alloc (.cells (rowV (bF la) 16) 22)).heap.size (some ⟨w.heap.size, 0, none⟩) 16 16 la :=
    BS.of_blk hra (by simp) ha (Nat.le_refl 16) (by omega) ha2 (fun i hi => by rw [rowV_at _ hi]; rfl)
  have hwa : ∀ (W : World) (g : Nat), (Instr.sliceAt 22 (.pointer (some ⟨g, 0, none⟩)) none none none).run Try.prog W = .ok (.slice (some ⟨g, 0, none⟩) 16 16) W := fun W g =>
    run_whole_arr 22 5 16 Try.underlying22 (by kernel_rfl) g 0 W
  have HS0 := Lib.hid ((hs.below hb0).more hb0.size)
  have HB0 := Lib.hid hb0
  have HKA := Lib.hid hka
  have HKS := Lib.hid hks
  clear hks hnew hb0 hra hka hs ha ha2
  generalize rowV (bF la) 16 = xa at *
  go_enter Try.func9, Try.ntmps9
  go_wp2_with fail
  generalize w.alloc (.cells xa 22) = W0 at *
  refine (short6_any A n c l W0 HS0.out).mono ?_
  rintro en W1 ⟨m, rfl, hm, hs1, rfl⟩
  have HS1 := Lib.hid hs1
  generalize l.take 300 = lt at *
  have HK : Hid (∀ w1, Below W0.drew.heap.size W0.drew w1 → BS w1 w1.heap.size (some ⟨w.heap.size, 0, none⟩) 16 16 la) := Lib.hid (fun w1 h => (BS.below (B := W0.drew.heap.size) HKA.out.dr h).more h.size)
  clear HS0 HKA hs1
  go_wp2_with fail
  refine wp_region_held_drew (S := fun _ => True) (by kernel_rfl) trivial (fun hHeld => ?_)
  refine wpAnyH_take (i := 1) (oi := _) (v := ?_) rfl (by kernel_rfl) (by kernel_rfl) (by kernel_rfl) (fun _ _ _ h => h) (Or.inl ⟨by rfl, ?_⟩) (by assumption) ?_
  rotate_left 1
  · intro w hSw
    (try dsimp only at hSw)
    (first | (go_simp; done) | (go_simp; with_reducible rfl))
  (try simp only [Act.put, List.getElem_toArray, List.getElem_cons_succ, List.getElem_cons_zero, List.setIfInBounds_toArray, List.set_cons_zero, List.set_cons_succ])
  refine wpAnyH_ready (rs := [0]) (by kernel_rfl) (by simp) ?_
  refine AllReadyH.cons (o := _) rfl (fun K hK => ?_) AllReadyH.nil
  go_simp
  go_at_call 13
  refine (newBox_any _).mono ?_
  rintro e w1 ⟨rfl, hb1, hbx1⟩
  refine hK.out _ _ (trivial) (fun hHeld0 => ?_)
  clear hK K
  (try simp only [Act.put, List.getElem_toArray, List.getElem_cons_succ, List.getElem_cons_zero, List.setIfInBounds_toArray, List.set_cons_zero, List.set_cons_succ])
  refine wpAnyH_ready (rs := [2]) (by kernel_rfl) (by simp) ?_
  refine AllReadyH.cons (o := _) rfl (fun K hK => ?_) AllReadyH.nil
  go_simp
  go_at_call 12
  refine (HNEW.out _ _ _ hbx1 (HK.out w1 hb1)).mono ?_
  rintro e w3 ⟨rfl, hc3, hb3⟩
  refine hK.out _ _ (trivial) (fun hHeld2 => ?_)
  clear hK K
  (try simp only [Act.put, List.getElem_toArray, List.getElem_cons_succ, List.getElem_cons_zero, List.setIfInBounds_toArray, List.set_cons_zero, List.set_cons_succ])
  refine wpAnyH_take (i := 3) (oi := _) (v := ?_) rfl (by kernel_rfl) (by kernel_rfl) (by kernel_rfl) (fun _ _ _ h => h) (Or.inl ⟨by rfl, ?_⟩) (by assumption) ?_
  rotate_left 1
  · intro w hSw
    (try dsimp only at hSw)
    (first | (go_simp; done) | (go_simp; with_reducible rfl))
  (try simp only [Act.put, List.getElem_toArray, List.getElem_cons_succ, List.getElem_cons_zero, List.setIfInBounds_toArray, List.set_cons_zero, List.set_cons_succ])
  refine wpAnyH_take (i := 4) (oi := _) (v := ?_) rfl (by kernel_rfl) (by kernel_rfl) (by kernel_rfl) (fun _ _ _ h => h) (Or.inl ⟨by rfl, ?_⟩) (by assumption) ?_
  rotate_left 1
  · intro w hSw
    (try dsimp only at hSw)
    (first | (go_simp; done) | (go_simp; with_reducible rfl))
  (try simp only [Act.put, List.getElem_toArray, List.getElem_cons_succ, List.getElem_cons_zero, List.setIfInBounds_toArray, List.set_cons_zero, List.set_cons_succ])
  refine wpAnyH_take (i := 5) (oi := _) (v := ?_) rfl (by kernel_rfl) (by kernel_rfl) (by kernel_rfl) (fun _ _ _ h => h) (Or.inl ⟨by rfl, ?_⟩) (by assumption) ?_
  rotate_left 1
  · intro w hSw
    (try dsimp only at hSw)
    (first | (go_simp; done) | (go_simp; with_reducible rfl))
  (try simp only [Act.put, List.getElem_toArray, List.getElem_cons_succ, List.getElem_cons_zero, List.setIfInBounds_toArray, List.set_cons_zero, List.set_cons_succ])
  refine wpAnyH_take (i := 6) (oi := _) (v := ?_) rfl (by kernel_rfl) (by kernel_rfl) (by kernel_rfl) (fun _ _ _ h => h) (Or.inl ⟨by rfl, ?_⟩) (by assumption) ?_
  rotate_left 1
  · intro w hSw
    (try dsimp only at hSw)
    (first | (go_simp; done) | (go_simp; with_reducible rfl))
  (try simp only [Act.put, List.getElem_toArray, List.getElem_cons_succ, List.getElem_cons_zero, List.setIfInBounds_toArray, List.set_cons_zero, List.set_cons_succ])
  refine wpAnyH_take (i := 7) (oi := _) (v := ?_) rfl (by kernel_rfl) (by kernel_rfl) (by kernel_rfl) (fun _ _ _ h => h) (Or.inl ⟨by rfl, ?_⟩) (by assumption) ?_
  rotate_left 1
  · intro w hSw
    (try dsimp only at hSw)
    (first | (go_simp; done) | (go_simp; with_reducible rfl))
  (try simp only [Act.put, List.getElem_toArray, List.getElem_cons_succ, List.getElem_cons_zero, List.setIfInBounds_toArray, List.set_cons_zero, List.set_cons_succ])
  refine wpAnyH_done (by kernel_rfl) ?_ _
  have hafter : Below W0.heap.size W0 w3 := (After.drew W0).trans (hb1.trans (hb3.mono hb1.size))
  have hbw3 := HB0.out.trans (hafter.mono HB0.out.size)
  have hs3 := (HS1.out.below hafter).more hafter.size
  have HC3 := Lib.hid hc3
  have HBW3 := Lib.hid hbw3
  have HS3 := Lib.hid hs3
  have HBY := Lib.hid (stmL_byte (N := 10) (e := e) (b := b) (n := m) HKS.out)
  have HAP := Lib.hid (fun A c l W (hC : CipR W w1.heap.size 10 ks) hs => apply_any w1.heap.size 10 e b m c A l ks hm he hb W hC HKS.out (by omega) hs)
  have htw : xorL (xorL lt (stmL ks 10 e b m)) (stmL ks 10 e b m) = lt := by
    rw [xorL_twice, stmL_len, hs3.len, Nat.min_self, List.take_of_length_le (by rw [hs3.len]; exact Nat.le_refl _)]
  have HTW := Lib.hid htw
  have HCV : Hid (∀ W, After w3 W → (convert 23 9 (.slice A m c)).run Try.prog W = .ok (.string (str lt)) W) := Lib.hid (fun W h => (HS3.out.below h).conv 23 5 9 Try.underlying23 Try.underlying5 Try.underlying9)
  clear hc3 hbw3 hs3 hafter htw HNEW HK hbx1 hb1 hb3 hwa HB0 HS1 hHeld hHeld0 hHeld2
  generalize hsls : str lt = sls at *
  have HSLS := Lib.hid hsls
  clear hsls
  generalize stmL ks 10 e b m = st at *
  go_wp2_with fail
  refine wp_region_held_drew (S := fun W => After w3 W) (by kernel_rfl) (After.drew w3) (fun hHeld => ?_)
  refine wpAnyH_take (i := 0) (oi := _) (v := ?_) rfl (by kernel_rfl) (by kernel_rfl) (by kernel_rfl) (fun _ _ _ h => h) (Or.inl ⟨by rfl, ?_⟩) (by assumption) ?_
  rotate_left 1
  · intro w hSw
    (try dsimp only at hSw)
    (first | (go_simp; done) | (go_simp; with_reducible rfl))
  (try simp only [Act.put, List.getElem_toArray, List.getElem_cons_succ, List.getElem_cons_zero, List.setIfInBounds_toArray, List.set_cons_zero, List.set_cons_succ])
  refine wpAnyH_take (i := 1) (oi := _) (v := ?_) rfl (by kernel_rfl) (by kernel_rfl) (by kernel_rfl) (fun _ _ _ h => h) (Or.inl ⟨by rfl, ?_⟩) (by assumption) ?_
  rotate_left 1
  · intro w hSw
    (try dsimp only at hSw)
    (first | (go_simp; done) | (go_simp; with_reducible rfl))
  (try simp only [Act.put, List.getElem_toArray, List.getElem_cons_succ, List.getElem_cons_zero, List.setIfInBounds_toArray, List.set_cons_zero, List.set_cons_succ])
  refine wpAnyH_take (i := 2) (oi := _) (v := ?_) rfl (by kernel_rfl) (by kernel_rfl) (by kernel_rfl) (fun _ _ _ h => h) (Or.inl ⟨by rfl, ?_⟩) (by assumption) ?_
  rotate_left 1
  · intro w hSw
    (try dsimp only at hSw)
    (first | (go_simp; done) | (go_simp; with_reducible rfl))
  (try simp only [Act.put, List.getElem_toArray, List.getElem_cons_succ, List.getElem_cons_zero, List.setIfInBounds_toArray, List.set_cons_zero, List.set_cons_succ])
  refine wpAnyH_take (i := 3) (oi := _) (v := ?_) rfl (by kernel_rfl) (by kernel_rfl) (by kernel_rfl) (fun _ _ _ h => h) (Or.inl ⟨by rfl, ?_⟩) (by assumption) ?_
  rotate_left 1
  · intro w hSw
    (try dsimp only at hSw)
    (first | (go_simp; done) | (go_simp; with_reducible rfl))
  (try simp only [Act.put, List.getElem_toArray, List.getElem_cons_succ, List.getElem_cons_zero, List.setIfInBounds_toArray, List.set_cons_zero, List.set_cons_succ])
  refine wpAnyH_take (i := 4) (oi := _) (v := ?_) rfl (by kernel_rfl) (by kernel_rfl) (by kernel_rfl) (fun _ _ _ h => h) (Or.inl ⟨by rfl, ?_⟩) (by assumption) ?_
  rotate_left 1
  · intro w hSw
    (try dsimp only at hSw)
    (first | (go_simp; done) | (go_simp; with_reducible rfl))
  (try simp only [Act.put, List.getElem_toArray, List.getElem_cons_succ, List.getElem_cons_zero, List.setIfInBounds_toArray, List.set_cons_zero, List.set_cons_succ])
  refine wpAnyH_take (i := 5) (oi := _) (v := ?_) rfl (by kernel_rfl) (by kernel_rfl) (by kernel_rfl) (fun _ _ _ h => h) (Or.inl ⟨by rfl, ?_⟩) (by assumption) ?_
  rotate_left 1
  · intro w hSw
    (try dsimp only at hSw)
    (first | (go_simp; done) | (go_simp; with_reducible rfl))
  (try simp only [Act.put, List.getElem_toArray, List.getElem_cons_succ, List.getElem_cons_zero, List.setIfInBounds_toArray, List.set_cons_zero, List.set_cons_succ])
  refine wpAnyH_take (i := 6) (oi := _) (v := ?_) rfl (by kernel_rfl) (by kernel_rfl) (by kernel_rfl) (fun _ _ _ h => h) (Or.inl ⟨by rfl, ?_⟩) (by assumption) ?_
  rotate_left 1
  · intro w hSw
    (try dsimp only at hSw)
    (first | (go_simp; done) | (go_simp; with_reducible rfl))
  (try simp only [Act.put, List.getElem_toArray, List.getElem_cons_succ, List.getElem_cons_zero, List.setIfInBounds_toArray, List.set_cons_zero, List.set_cons_succ])
  refine wpAnyH_take (i := 7) (oi := _) (v := ?_) rfl (by kernel_rfl) (by kernel_rfl) (by kernel_rfl) (fun _ _ _ h => h) (Or.inl ⟨by rfl, ?_⟩) (by assumption) ?_
  rotate_left 1
  · intro w hSw
    (try dsimp only at hSw)
    (first | (go_simp; done) | (go_simp; with_reducible rfl))
  (try simp only [Act.put, List.getElem_toArray, List.getElem_cons_succ, List.getElem_cons_zero, List.setIfInBounds_toArray, List.set_cons_zero, List.set_cons_succ])
  refine wpAnyH_take (i := 8) (oi := _) (v := ?_) rfl (by kernel_rfl) (by kernel_rfl) (by kernel_rfl) (fun _ _ _ h => h) (Or.inl ⟨by rfl, ?_⟩) (by assumption) ?_
  rotate_left 1
  · intro w hSw
    (try dsimp only at hSw)
    (first | (go_simp; done) | (go_simp; with_reducible rfl))
  (try simp only [Act.put, List.getElem_toArray, List.getElem_cons_succ, List.getElem_cons_zero, List.setIfInBounds_toArray, List.set_cons_zero, List.set_cons_succ])
  refine wpAnyH_take (i := 9) (oi := _) (v := ?_) rfl (by kernel_rfl) (by kernel_rfl) (by kernel_rfl) (fun _ _ _ h => h) (Or.inl ⟨by rfl, ?_⟩) (by assumption) ?_
  rotate_left 1
  · intro w hSw
    (try dsimp only at hSw)
    (first | (go_simp; done) | (go_simp; with_reducible rfl))
  (try simp only [Act.put, List.getElem_toArray, List.getElem_cons_succ, List.getElem_cons_zero, List.setIfInBounds_toArray, List.set_cons_zero, List.set_cons_succ])
  refine wpAnyH_take (i := 13) (oi := _) (v := ?_) rfl (by kernel_rfl) (by kernel_rfl) (by kernel_rfl) (fun _ _ _ h => h) (Or.inl ⟨by rfl, ?_⟩) (by assumption) ?_
  rotate_left 1
  · intro w hSw
    (try dsimp only at hSw)
    (first | (go_simp; done) | (go_simp; with_reducible rfl))
  (try simp only [Act.put, List.getElem_toArray, List.getElem_cons_succ, List.getElem_cons_zero, List.setIfInBounds_toArray, List.set_cons_zero, List.set_cons_succ])
  refine wpAnyH_take (i := 14) (oi := _) (v := ?_) rfl (by kernel_rfl) (by kernel_rfl) (by kernel_rfl) (fun _ _ _ h => h) (Or.inl ⟨by rfl, ?_⟩) (by assumption) ?_
  rotate_left 1
  · intro w hSw
    (try dsimp only at hSw)
    have hcw := HCV.out w hSw
    (first | (go_simp; done) | (go_simp; with_reducible rfl))
  (try simp only [Act.put, List.getElem_toArray, List.getElem_cons_succ, List.getElem_cons_zero, List.setIfInBounds_toArray, List.set_cons_zero, List.set_cons_succ])
  refine wpAnyH_ready (rs := [10]) (by kernel_rfl) (by simp) ?_
  refine AllReadyH.cons (o := _) rfl (fun K hK => ?_) AllReadyH.nil
  go_simp
  go_at_call 23
  refine (HAP.out _ _ _ _ (HC3.out.next hHeld) ((HS3.out.below hHeld).more (Below.size hHeld))).mono ?_
  rintro e w4 ⟨A4, c4, rfl, hb4, hx4⟩
  refine hK.out _ _ (After.next hHeld hb4) (fun hHeld10 => ?_)
  clear hK K
  (try simp only [Act.put, List.getElem_toArray, List.getElem_cons_succ, List.getElem_cons_zero, List.setIfInBounds_toArray, List.set_cons_zero, List.set_cons_succ])
  have HX4 := Lib.hid hx4
  have HB4 := Lib.hid (Below.trans hHeld (hb4.mono (Below.size hHeld)))
  clear hx4
  refine wpAnyH_ready (rs := [11]) (by kernel_rfl) (by simp) ?_
  refine AllReadyH.cons (o := _) rfl (fun K hK => ?_) AllReadyH.nil
  go_simp
  go_at_call 23
  refine (HAP.out _ _ _ _ (HC3.out.next HB4.out) HX4.out).mono ?_
  rintro e w5 ⟨A5, c5, rfl, hb5, hx5⟩
  refine hK.out _ _ (After.next hHeld10 hb5) (fun hHeld11 => ?_)
  clear hK K
  (try simp only [Act.put, List.getElem_toArray, List.getElem_cons_succ, List.getElem_cons_zero, List.setIfInBounds_toArray, List.set_cons_zero, List.set_cons_succ])
  have HB5 := Lib.hid (HB4.out.trans (hb5.mono HB4.out.size))
  rw [HTW.out] at hx5
  have hc5 : (convert 23 9 (.slice A5 m c5)).run Try.prog w5 = .ok (.string sls) w5 := by
    rw [← HSLS.out]
    exact hx5.conv 23 5 9 Try.underlying23 Try.underlying5 Try.underlying9
  clear hx5 hb4 hb5
  refine wpAnyH_ready (rs := [12]) (by kernel_rfl) (by simp) ?_
  refine AllReadyH.cons (o := _) rfl (fun K hK => ?_) AllReadyH.nil
  go_simp
  refine hK.out _ _ (hHeld11) (fun hHeld12 => ?_)
  clear hK K
  (try simp only [Act.put, List.getElem_toArray, List.getElem_cons_succ, List.getElem_cons_zero, List.setIfInBounds_toArray, List.set_cons_zero, List.set_cons_succ])
  clear hc5
  refine wpAnyH_take (i := 15) (oi := _) (v := ?_) rfl (by kernel_rfl) (by kernel_rfl) (by kernel_rfl) (fun _ _ _ h => h) (Or.inl ⟨by rfl, ?_⟩) (by assumption) ?_
  rotate_left 1
  · intro w hSw
    (try dsimp only at hSw)
    (first | (go_simp; done) | (go_simp; with_reducible rfl))
  (try simp only [Act.put, List.getElem_toArray, List.getElem_cons_succ, List.getElem_cons_zero, List.setIfInBounds_toArray, List.set_cons_zero, List.set_cons_succ])
  refine wpAnyH_take (i := 16) (oi := _) (v := ?_) rfl (by kernel_rfl) (by kernel_rfl) (by kernel_rfl) (fun _ _ _ h => h) (Or.inl ⟨by rfl, ?_⟩) (by assumption) ?_
  rotate_left 1
  · intro w hSw
    (try dsimp only at hSw)
    (first | (go_simp; done) | (go_simp; with_reducible rfl))
  (try simp only [Act.put, List.getElem_toArray, List.getElem_cons_succ, List.getElem_cons_zero, List.setIfInBounds_toArray, List.set_cons_zero, List.set_cons_succ])
  refine wpAnyH_take (i := 17) (oi := _) (v := ?_) rfl (by kernel_rfl) (by kernel_rfl) (by kernel_rfl) (fun _ _ _ h => h) (Or.inl ⟨by rfl, ?_⟩) (by assumption) ?_
  rotate_left 1
  · intro w hSw
    (try dsimp only at hSw)
    (first | (go_simp; done) | (go_simp; with_reducible rfl))
  (try simp only [Act.put, List.getElem_toArray, List.getElem_cons_succ, List.getElem_cons_zero, List.setIfInBounds_toArray, List.set_cons_zero, List.set_cons_succ])
  refine wpAnyH_ready (rs := [18]) (by kernel_rfl) (by simp) ?_
  refine AllReadyH.cons (o := _) rfl (fun K hK => ?_) AllReadyH.nil
  go_simp
  go_at_call 25
  refine (awakeC_any _).mono ?_
  rintro e w6 ⟨rfl, hb6⟩
  refine hK.out _ _ (After.next hHeld11 hb6) (fun hHeld18 => ?_)
  clear hK K
  (try simp only [Act.put, List.getElem_toArray, List.getElem_cons_succ, List.getElem_cons_zero, List.setIfInBounds_toArray, List.set_cons_zero, List.set_cons_succ])
  have HB6 := Lib.hid (HBW3.out.trans ((HB5.out.trans (hb6.mono HB5.out.size)).mono HBW3.out.size))
  clear hb6
  refine wpAnyH_take (i := 19) (oi := _) (v := ?_) rfl (by kernel_rfl) (by kernel_rfl) (by kernel_rfl) (fun _ _ _ h => h) (Or.inl ⟨by rfl, ?_⟩) (by assumption) ?_
  rotate_left 1
  · intro w hSw
    (try dsimp only at hSw)
    (first | (go_simp; done) | (go_simp; with_reducible rfl))
  (try simp only [Act.put, List.getElem_toArray, List.getElem_cons_succ, List.getElem_cons_zero, List.setIfInBounds_toArray, List.set_cons_zero, List.set_cons_succ])
  refine wpAnyH_take (i := 20) (oi := _) (v := ?_) rfl (by kernel_rfl) (by kernel_rfl) (by kernel_rfl) (fun _ _ _ h => h) (Or.inl ⟨by rfl, ?_⟩) (by assumption) ?_
  rotate_left 1
  · intro w hSw
    (try dsimp only at hSw)
    (first | (go_simp; done) | (go_simp; with_reducible rfl))
  (try simp only [Act.put, List.getElem_toArray, List.getElem_cons_succ, List.getElem_cons_zero, List.setIfInBounds_toArray, List.set_cons_zero, List.set_cons_succ])
  refine wpAnyH_done (by kernel_rfl) ?_ _
  go_wp2
  go_ret
  exact ⟨rfl, HB6.out⟩
end Go.Proofs.Ytimonlkelgpekaa
