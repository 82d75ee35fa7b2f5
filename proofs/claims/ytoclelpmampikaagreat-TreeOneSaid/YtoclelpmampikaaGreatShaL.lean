/-
  A hash that grows by the bytes of one part.
-/
import Derived.Test.YtoclelpmampikaaGreatShaK
import Derived.Test.YtoclelpmampikaaGreatByt
namespace Go.Proofs.YtoclelpmampikaaGreat
open Go.RowKit Go
set_option linter.unusedVariables false
theorem cut_bytes (A : Option Addr) (n c k : Nat) (hk : k ≤ n) (w : World) : (Instr.slice 89 (.slice A n c) (some (.int .i64 (k : Int))) none none).run Tryz.prog w = .ok (.slice (cutA A c k) (n - k) (c - k)) w :=
  run_cut _ _ Tryz.underlying89 size_u8 A n c k hk w
theorem cut_tail (b o k : Nat) (hk : k < 64) (w : World) : (Instr.sliceAt 125 (.pointer (some ⟨b, o, none⟩)) (some (.int .i64 (k : Int))) none none).run Tryz.prog w = .ok (.slice (some ⟨b, o + k, none⟩) (64 - k) (64 - k)) w :=
  run_cut_arr _ _ 64 Tryz.underlying125 size_u8 b o k hk w
theorem whole_tail (b o : Nat) (w : World) : (Instr.sliceAt 125 (.pointer (some ⟨b, o, none⟩)) none none none).run Tryz.prog w = .ok (.slice (some ⟨b, o, none⟩) 64 64) w :=
  run_whole_arr _ _ 64 Tryz.underlying125 size_u8 b o w
/-- a copy into the hash's tail, from a on -/
theorem wp_tail_copy {ops : Array Oper} {rest : List Oper} {o : Oper} {x : Act} {Q : Exit → Act → World → Prop} (W : World) (hgd : o.guard = none) (d s : Operand)
    (ho : o.op = .call { callee := .builtin .copy, args := #[d, s], argTypes := #[89, 89] })
    (hb g : Nat) (st : Sha.St) (tail : List Nat) (n : Nat) (hh : IsHash W hb g st tail n) (ht : tail.length = 64) (a B : Nat) (A : Option Addr) (np c : Nat) (p : List Nat) (hp : BS W B A np c p) (ha : a ≤ 64)
    (hd : x.eval d = .slice (some ⟨hb, 9 + a, none⟩) (64 - a) (64 - a)) (hs : x.eval s = .slice A np c)
    (h : ∀ w', IsHash w' hb g st (spl tail a (p.take (min np (64 - a)))) n → W.grownBy w' (some hb) → wpList Tryz.prog ops Q rest (x.put o.dst (.int .i64 ((min np (64 - a) : Nat) : Int))) w') :
    wpList Tryz.prog ops Q (o :: rest) x W := by
  have hpl := hp.len
  have hl : (bvals (p.take (min np (64 - a)))).length = min np (64 - a) := by rw [bvals_len, List.length_take]; omega
  have hz : (rowV (hashF g st tail n) 74).toList.length = 74 := by simp [rowV_size]
  refine wp_copy_only hgd d s 89 89 ho 5 Tryz.underlying89 size_u8 _ A (64 - a) (64 - a) np c hd hs hb (9 + a) (rowV (hashF g st tail n) 74).toList 127 hh
    (bvals (p.take (min np (64 - a)))) hl (fun h0 => ⟨rfl, bs_reads hp (by omega) (by rw [hl] at h0; exact h0)⟩) (by rw [hl, hz]; omega) (bvals_one _) fun w' hw hg => ?_
  rw [hl]
  refine h w' ?_ hg
  have e := hash_splice g st (q := p.take (min np (64 - a))) n (a := a) ht (by rw [List.length_take]; omega)
  unfold IsHash Row
  rw [← e]
  exact hw.out
theorem wp_tail_copy0 {ops : Array Oper} {rest : List Oper} {o : Oper} {x : Act} {Q : Exit → Act → World → Prop} (W : World) (hgd : o.guard = none) (d s : Operand)
    (ho : o.op = .call { callee := .builtin .copy, args := #[d, s], argTypes := #[89, 89] })
    (hb g : Nat) (st : Sha.St) (tail : List Nat) (n : Nat) (hh : IsHash W hb g st tail n) (ht : tail.length = 64) (B : Nat) (A : Option Addr) (np c : Nat) (p : List Nat) (hp : BS W B A np c p)
    (hd : x.eval d = .slice (some ⟨hb, 9, none⟩) 64 64) (hs : x.eval s = .slice A np c)
    (h : ∀ w', IsHash w' hb g st (spl tail 0 (p.take (min np 64))) n → W.grownBy w' (some hb) → wpList Tryz.prog ops Q rest (x.put o.dst (.int .i64 ((min np 64 : Nat) : Int))) w') :
    wpList Tryz.prog ops Q (o :: rest) x W := wp_tail_copy W hgd d s ho hb g st tail n hh ht 0 B A np c p hp (by omega) hd hs h
theorem wp_tail_copyr {ops : Array Oper} {rest : List Oper} {o : Oper} {x : Act} {Q : Exit → Act → World → Prop} (W : World) (hgd : o.guard = none) (d s : Operand)
    (ho : o.op = .call { callee := .builtin .copy, args := #[d, s], argTypes := #[89, 89] })
    (hb g : Nat) (st : Sha.St) (tail : List Nat) (n : Nat) (hh : IsHash W hb g st tail n) (ht : tail.length = 64) (a B : Nat) (A : Option Addr) (np c : Nat) (p : List Nat) (hp : BS W B A np c p) (ha : a ≤ 64) (r : Nat) (hr : min np (64 - a) = r)
    (hd : x.eval d = .slice (some ⟨hb, 9 + a, none⟩) (64 - a) (64 - a)) (hs : x.eval s = .slice A np c)
    (h : ∀ w', IsHash w' hb g st (spl tail a (p.take r)) n → W.grownBy w' (some hb) → wpList Tryz.prog ops Q rest (x.put o.dst (.int .i64 (r : Int))) w') :
    wpList Tryz.prog ops Q (o :: rest) x W := by
  subst hr
  exact wp_tail_copy W hgd d s ho hb g st tail n hh ht a B A np c p hp ha hd hs h
def WrRel (w : World) (hb g : Nat) (m p : List Nat) (v : Value) (wr : World) : Prop :=
  ∃ (k q : Nat) (A : Option Addr) (c : Nat) (tail : List Nat), v = .slice A (p.length - k) c ∧ k ≤ p.length ∧ m.length + k = 64 * q ∧ BS wr wr.heap.size A (p.length - k) c (p.drop k) ∧ Off (p.length - k) A hb ∧ w.grownBy wr (some hb) ∧ Mid wr hb g (m ++ p) q tail
theorem blocks_succ (s : Sha.St) (l : List Nat) (q : Nat) : Sha.blocks s l (q + 1) = Sha.block (Sha.blocks s l q) ((l.drop (64 * q)).take 64) := rfl
theorem set_n {w : World} {hb g n : Nat} {s : Sha.St} {tail : List Nat} (h : IsHash w hb g s tail n) (N : Nat) (v : Int) (hv : v = (N : Int)) : IsHash (w.setCell ⟨hb, 73, none⟩ (.int .i64 v)) hb g s tail N := by
  subst hv
  exact (Row.set_ h 73 (.int .i64 (N : Int))).congr (hash_n g s tail n N)
theorem IsTab.drew {w : World} {g : Nat} (h : IsTab w g) : IsTab w.drew g := h
theorem IsHash.drew {w : World} {hb g n : Nat} {s : Sha.St} {tail : List Nat} (h : IsHash w hb g s tail n) : IsHash w.drew hb g s tail n := h
attribute [local irreducible] hashF rowV Sha.blocks Sha.first Sha.block
set_option maxHeartbeats 2000000 in
set_option maxRecDepth 100000 in
theorem write_any (hb g : Nat) (m p : List Nat) (A : Option Addr) (np c : Nat) (w : World) (hm : IsSum w hb g m) (hp : BS w w.heap.size A np c p) (ho : Off np A hb) (hlen : m.length + np ≤ 1000000) :
    Calls Tryz.prog 70 #[.pointer (some ⟨hb, 0, none⟩), .slice A np c] w fun e w' => e = .returned (.tuple #[]) ∧ w.grownBy w' (some hb) ∧ IsSum w' hb g (m ++ p) := by
  obtain ⟨tail, hto, hha, hta⟩ := hm
  have hnp := hp.len
  subst hnp
  have hcap := hp.cap
  have HTO := Lib.hid hto
  have HOF := Lib.hid ho
  obtain ⟨a, hae⟩ : ∃ a, a = m.length % 64 := ⟨_, rfl⟩
  have ha64 : a < 64 := by omega
  have HAE := Lib.hid hae
  have hai : ((m.length : Nat) : Int) % 64 = (a : Int) := by omega
  have kn : w.cell? ⟨hb, 73, none⟩ = some (.int .i64 ((m.length : Nat) : Int)) := (Row.cell hha (i := 73) (by omega)).trans (congrArg some hash_end)
  have kf := Row.free hha 73
  have hne := tab_ne hha hta
  have hg1 : w.grownBy (w.setCell ⟨hb, 73, none⟩ (.int .i64 ((m.length : Int) + (p.length : Int)))) (some hb) := only_set (p := ⟨hb, 73, none⟩) (World.grownBy.refl w _) (.inl rfl) _
  have HH1 := Lib.hid (set_n hha (m.length + p.length) ((m.length : Int) + (p.length : Int)) (cast_add _ _))
  have HT1 := Lib.hid (hta.only hg1 hne)
  have HP1 := Lib.hid (hp.only ho hg1)
  have HG1 := Lib.hid hg1
  have HNE := Lib.hid hne
  have HPB := Lib.hid hp.byte
  have hsl := cut_tail hb 9 a ha64
  clear hto hha hta hp ho hg1 hne hae
  go_enter Tryz.func70, Tryz.ntmps70
  by_cases hs : a + p.length < 64
  · have hs' : (a : Int) + (p.length : Int) < 64 := by omega
    go_wp2_with (with_reducible refine wp_tail_copy _ rfl (.tmp 28) (.tmp 29) rfl hb g _ tail _ HH1.out HTO.out.len a _ A _ c p HP1.out (by omega) rfl rfl ?_; intro w2 hh2 hg2)
    have hend : IsSum w2 hb g (m ++ p) := by
      obtain ⟨e1, e2⟩ := tail_short HTO.out HP1.out.byte (by rw [← HAE.out]; exact hs)
      rw [List.take_of_length_le (by omega)] at hh2
      refine ⟨_, e2, ?_, HT1.out.only hg2 HNE.out⟩
      rw [e1, blocks_prefix _ _ _ _ (by omega), ← HAE.out, List.length_append]
      exact hh2
    have HE := Lib.hid hend
    have HG := Lib.hid (only_trans HG1.out hg2)
    clear hend hh2 hg2
    go_wp2
    refine bodyPost_ret (results_none rfl _ _ _) rfl ?_
    exact ⟨rfl, HG.out, HE.out⟩
  · have hs' : ¬ (a : Int) + (p.length : Int) < 64 := by omega
    by_cases ha0 : a = 0
    · have hza : ¬ (0 : Int) < (a : Int) := by omega
      have HA0 := Lib.hid ha0
      clear ha0
      have HL : Hid (WrRel w hb g m p (.slice A p.length c) (w.setCell ⟨hb, 73, none⟩ (.int .i64 ((m.length : Int) + (p.length : Int))))) := by
        have h0 := HAE.out
        have h00 := HA0.out
        refine Lib.hid ⟨0, m.length / 64, A, c, tail, rfl, by omega, by omega, HP1.out, HOF.out, HG1.out, HTO.out.len, HTO.out.byte, ?_, HT1.out⟩
        rw [blocks_prefix _ _ _ _ (by omega), List.length_append]
        exact HH1.out
      clear hsl HP1 HG1 HT1 HH1 HTO
      go_wp2
      generalize w.setCell ⟨hb, 73, none⟩ (.int .i64 ((m.length : Int) + (p.length : Int))) = w3 at *
      go_loopw [1] (fun v wr => WrRel w hb g m p v wr) (fun v _ => lenV v)
      case atStart => exact HL.out
      case round =>
        obtain ⟨k, q, A2, c2, tail2, rfl, hk, hkq, hbs, hoff, hgb, hmid⟩ := hrel
        have HBS := Lib.hid hbs
        have HOF2 := Lib.hid hoff
        have HG := Lib.hid hgb
        have HM := Lib.hid hmid
        have hcp := hbs.cap
        have HKQ := Lib.hid hkq
        clear hbs hoff hgb hmid HL hkq
        by_cases hge : 64 ≤ p.length - k
        · obtain ⟨W2, hW2⟩ : ∃ W2 : World, W2 = wr.drew := ⟨_, rfl⟩
          have hh2 : IsHash W2 hb g (Sha.blocks Sha.first (m ++ p) q) tail2 (m ++ p).length := by rw [hW2]; exact HM.out.hash.drew
          have ht2 : IsTab W2 g := by rw [hW2]; exact HM.out.tab.drew
          have hb2 : BS W2 W2.heap.size A2 (p.length - k) c2 (p.drop k) := by rw [hW2]; exact HBS.out
          have hg2 : w.grownBy W2 (some hb) := by rw [hW2]; exact only_drew HG.out
          have HH2 := Lib.hid hh2
          have HT2 := Lib.hid ht2
          have HB2 := Lib.hid hb2
          have HG2 := Lib.hid hg2
          have HW2 := Lib.hid hW2
          have kh : W2.cell? ⟨hb, 0, none⟩ = some (.func (Fn.func 68) #[.pointer (some ⟨g, 0, none⟩)] #[]) := (Row.cell hh2 (i := 0) (by omega)).trans (congrArg some hash_zero)
          have hc64 : (64 : Int) ≤ (c2 : Int) := by omega
          have hc64' : 64 ≤ c2 := by omega
          have hcutp := cut_bytes A2 (p.length - k) c2 64 hge
          have HNE2 := Lib.hid (HM.out.ne)
          have HML := Lib.hid HM.out.len
          have HMY := Lib.hid HM.out.byte
          clear hh2 ht2 hb2 hg2 hW2 HM HBS HG
          go_wp2
          refine wp_region_qtail 9 W2 HW2.out (by kernel_rfl) (by kernel_rfl) ?_
          simp only [List.take_succ_cons, List.take_zero, List.drop_succ_cons, List.drop_zero]
          clear HW2
          repeat (first
            | go_big_quiet_skip
            | (go_big_quiet_want; go_big_quiet_op; go_big_quiet_on))
          refine wpQuiet_nil ?_
          go_wp2_with fail
          refine (take_any g hb _ (Sha.blocks_ok Sha.first_ok _ _) tail2 _ A2 c2 _ _ HT2.out HH2.out (BS.take HB2.out hge)).mono ?_
          rintro e w4 ⟨rfl, hg4, hh4⟩
          have hrel : WrRel w hb g m p (.slice (cutA A2 c2 64) (p.length - k - 64) (c2 - 64)) w4 := by
            refine ⟨k + 64, q + 1, cutA A2 c2 64, c2 - 64, tail2, by rw [Nat.sub_sub], by omega, by have := HKQ.out; omega, ?_, HOF2.out.cut _ _, only_trans HG2.out hg4, HML.out, HMY.out, ?_, HT2.out.only hg4 HNE2.out⟩
            · have := (HB2.out.only HOF2.out hg4).cut hge
              rw [List.drop_drop, Nat.sub_sub] at this
              exact this
            · rw [mid_chunk HKQ.out, ← blocks_succ] at hh4
              exact hh4
          have HR := Lib.hid hrel
          clear hrel hg4 hh4 kh
          go_wp2
          go_roundw
          case rel => exact HR.out
          case measure => simp [lenV]; omega
        · have hge' : ¬ (64 : Int) ≤ ((p.length - k : Nat) : Int) := by omega
          have hwt := whole_tail hb 9
          go_wp2_with (with_reducible refine wp_tail_copy0 _ rfl (.tmp 72) (.tmp 73) rfl hb g _ tail2 _ HM.out.hash HM.out.len _ A2 _ c2 (p.drop k) HBS.out rfl rfl ?_; intro w5 hh5 hg5)
          have hend : IsSum w5 hb g (m ++ p) := by
            obtain ⟨e1, e2⟩ := tail_last HM.out.len HM.out.byte HPB.out HKQ.out hk (by omega)
            rw [List.take_of_length_le (by rw [List.length_drop]; omega)] at hh5
            refine ⟨_, e2, ?_, HM.out.tab.only hg5 HM.out.ne⟩
            rw [e1]
            exact hh5
          have HE := Lib.hid hend
          have HGE := Lib.hid (only_trans HG.out hg5)
          clear hend hh5 hg5
          go_wp2
          go_end0
          exact ⟨rfl, HGE.out, HE.out⟩
    · have hza : (0 : Int) < (a : Int) := by omega
      obtain ⟨r, hr⟩ : ∃ r, r = 64 - a := ⟨_, rfl⟩
      have hrp : r ≤ p.length := by omega
      have hrm : min p.length (64 - a) = r := by omega
      have HRM := Lib.hid hrm
      have HRE := Lib.hid hr
      have hcr := cut_bytes A p.length c r hrp
      clear hrm hr
      go_wp2_with (with_reducible refine wp_tail_copyr _ rfl (.tmp 38) (.tmp 39) rfl hb g _ tail _ HH1.out HTO.out.len a _ A _ c p HP1.out (by omega) r HRM.out rfl rfl ?_; intro w2 hh2 hg2)
      have hsp : a + (p.take r).length ≤ tail.length := by rw [HTO.out.len, List.length_take]; have := HRE.out; omega
      have HSP := Lib.hid hsp
      have HH2 := Lib.hid hh2
      have HG2 := Lib.hid hg2
      have HP2 := Lib.hid (HP1.out.only HOF.out hg2)
      have HT2 := Lib.hid (HT1.out.only hg2 HNE.out)
      clear hh2 hg2 hsl hcr hsp
      go_wp2
      obtain ⟨W2, hW2⟩ : ∃ W2 : World, W2 = w2.drew := ⟨_, rfl⟩
      have hh3 : IsHash W2 hb g (Sha.blocks Sha.first m (m.length / 64)) (spl tail a (p.take r)) (m.length + p.length) := by rw [hW2]; exact HH2.out.drew
      have ht3 : IsTab W2 g := by rw [hW2]; exact HT2.out.drew
      have hb3 : BS W2 W2.heap.size A p.length c p := by rw [hW2]; exact HP2.out
      have hg3 : w.grownBy W2 (some hb) := by rw [hW2]; exact only_drew (only_trans HG1.out HG2.out)
      have HH3 := Lib.hid hh3
      have HT3 := Lib.hid ht3
      have HB3 := Lib.hid hb3
      have HG3 := Lib.hid hg3
      have HW2 := Lib.hid hW2
      have kh : W2.cell? ⟨hb, 0, none⟩ = some (.func (Fn.func 68) #[.pointer (some ⟨g, 0, none⟩)] #[]) := (Row.cell hh3 (i := 0) (by omega)).trans (congrArg some hash_zero)
      have hwt := whole_tail hb 9
      have htl : (spl tail a (p.take r)).length = 64 := by rw [spl_len HSP.out]; exact HTO.out.len
      have hty : ∀ i, (spl tail a (p.take r)).getD i 0 < 256 := spl_byte HSP.out HTO.out.byte (byte_take HPB.out r)
      have HTL := Lib.hid htl
      have HTY := Lib.hid hty
      clear hh3 ht3 hb3 hg3 hW2 HH2 HT2 HP2 HG2 HH1 HT1 HP1 HG1 htl hty
      refine wp_region_qtail 11 W2 HW2.out (by kernel_rfl) (by kernel_rfl) ?_
      simp only [List.take_succ_cons, List.take_zero, List.drop_succ_cons, List.drop_zero]
      clear HW2
      repeat (first
        | go_big_quiet_skip
        | (go_big_quiet_want; go_big_quiet_op; go_big_quiet_on))
      refine wpQuiet_nil ?_
      go_wp2_with fail
      refine (take_any g hb _ (Sha.blocks_ok Sha.first_ok _ _) _ _ (some ⟨hb, 9, none⟩) 64 _ _ HT3.out HH3.out (tail_bs HH3.out HTL.out HTY.out)).mono ?_
      rintro e w4 ⟨rfl, hg4, hh4⟩
      have hL : WrRel w hb g m p (.slice (cutA A c r) (p.length - r) (c - r)) w4 := by
        have h0 := HAE.out
        have h1 := HRE.out
        have hdm := Nat.div_add_mod m.length 64
        refine ⟨r, m.length / 64 + 1, cutA A c r, c - r, _, rfl, hrp, by omega, (HB3.out.only HOF.out hg4).cut hrp, HOF.out.cut _ _, only_trans HG3.out hg4, HTL.out, HTY.out, ?_, HT3.out.only hg4 HNE.out⟩
        rw [blocks_succ, blocks_prefix _ _ _ _ (by omega), List.length_append, ← tail_first HTO.out HPB.out (by omega), ← h0, ← h1]
        exact hh4
      have HL := Lib.hid hL
      clear hL hg4 hh4 kh hwt HB3 HT3 HH3 HG3 HTL HTY HTO
      go_wp2
      go_loopw [1] (fun v wr => WrRel w hb g m p v wr) (fun v _ => lenV v)
      case atStart => exact HL.out
      case round =>
        obtain ⟨k, q, A2, c2, tail2, rfl, hk, hkq, hbs, hoff, hgb, hmid⟩ := hrel
        have HBS := Lib.hid hbs
        have HOF2 := Lib.hid hoff
        have HG := Lib.hid hgb
        have HM := Lib.hid hmid
        have hcp := hbs.cap
        have HKQ := Lib.hid hkq
        clear hbs hoff hgb hmid HL hkq
        by_cases hge : 64 ≤ p.length - k
        · obtain ⟨W2, hW2⟩ : ∃ W2 : World, W2 = wr.drew := ⟨_, rfl⟩
          have hh2 : IsHash W2 hb g (Sha.blocks Sha.first (m ++ p) q) tail2 (m ++ p).length := by rw [hW2]; exact HM.out.hash.drew
          have ht2 : IsTab W2 g := by rw [hW2]; exact HM.out.tab.drew
          have hb2 : BS W2 W2.heap.size A2 (p.length - k) c2 (p.drop k) := by rw [hW2]; exact HBS.out
          have hg2 : w.grownBy W2 (some hb) := by rw [hW2]; exact only_drew HG.out
          have HH2 := Lib.hid hh2
          have HT2 := Lib.hid ht2
          have HB2 := Lib.hid hb2
          have HG2 := Lib.hid hg2
          have HW2 := Lib.hid hW2
          have kh : W2.cell? ⟨hb, 0, none⟩ = some (.func (Fn.func 68) #[.pointer (some ⟨g, 0, none⟩)] #[]) := (Row.cell hh2 (i := 0) (by omega)).trans (congrArg some hash_zero)
          have hc64 : (64 : Int) ≤ (c2 : Int) := by omega
          have hc64' : 64 ≤ c2 := by omega
          have hcutp := cut_bytes A2 (p.length - k) c2 64 hge
          have HNE2 := Lib.hid (HM.out.ne)
          have HML := Lib.hid HM.out.len
          have HMY := Lib.hid HM.out.byte
          clear hh2 ht2 hb2 hg2 hW2 HM HBS HG
          go_wp2
          refine wp_region_qtail 9 W2 HW2.out (by kernel_rfl) (by kernel_rfl) ?_
          simp only [List.take_succ_cons, List.take_zero, List.drop_succ_cons, List.drop_zero]
          clear HW2
          repeat (first
            | go_big_quiet_skip
            | (go_big_quiet_want; go_big_quiet_op; go_big_quiet_on))
          refine wpQuiet_nil ?_
          go_wp2_with fail
          refine (take_any g hb _ (Sha.blocks_ok Sha.first_ok _ _) tail2 _ A2 c2 _ _ HT2.out HH2.out (BS.take HB2.out hge)).mono ?_
          rintro e w4 ⟨rfl, hg4, hh4⟩
          have hrel : WrRel w hb g m p (.slice (cutA A2 c2 64) (p.length - k - 64) (c2 - 64)) w4 := by
            refine ⟨k + 64, q + 1, cutA A2 c2 64, c2 - 64, tail2, by rw [Nat.sub_sub], by omega, by have := HKQ.out; omega, ?_, HOF2.out.cut _ _, only_trans HG2.out hg4, HML.out, HMY.out, ?_, HT2.out.only hg4 HNE2.out⟩
            · have := (HB2.out.only HOF2.out hg4).cut hge
              rw [List.drop_drop, Nat.sub_sub] at this
              exact this
            · rw [mid_chunk HKQ.out, ← blocks_succ] at hh4
              exact hh4
          have HR := Lib.hid hrel
          clear hrel hg4 hh4 kh
          go_wp2
          go_roundw
          case rel => exact HR.out
          case measure => simp [lenV]; omega
        · have hge' : ¬ (64 : Int) ≤ ((p.length - k : Nat) : Int) := by omega
          have hwt := whole_tail hb 9
          go_wp2_with (with_reducible refine wp_tail_copy0 _ rfl (.tmp 72) (.tmp 73) rfl hb g _ tail2 _ HM.out.hash HM.out.len _ A2 _ c2 (p.drop k) HBS.out rfl rfl ?_; intro w5 hh5 hg5)
          have hend : IsSum w5 hb g (m ++ p) := by
            obtain ⟨e1, e2⟩ := tail_last HM.out.len HM.out.byte HPB.out HKQ.out hk (by omega)
            rw [List.take_of_length_le (by rw [List.length_drop]; omega)] at hh5
            refine ⟨_, e2, ?_, HM.out.tab.only hg5 HM.out.ne⟩
            rw [e1]
            exact hh5
          have HE := Lib.hid hend
          have HGE := Lib.hid (only_trans HG.out hg5)
          clear hend hh5 hg5
          go_wp2
          go_end0
          exact ⟨rfl, HGE.out, HE.out⟩
end Go.Proofs.YtoclelpmampikaaGreat
