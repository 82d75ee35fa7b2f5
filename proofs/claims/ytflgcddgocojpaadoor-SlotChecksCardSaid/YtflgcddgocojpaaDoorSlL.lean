/-
  Layer 18: Write.
-/
import Derived.Test.YtflgcddgocojpaaDoorSlK
namespace Go.Proofs.YtflgcddgocojpaaDoor
open Go.RowKit Go
set_option linter.unusedVariables false
set_option linter.unusedSimpArgs false
set_option maxHeartbeats 1000000

def szO (z : Nat) (t : List Nat) (i : Int) : Nat := num ((winL t z i.toNat).take 2)
def WrTo (w : World) (z S : Nat) (t : List Nat) (i at_ : Int) (p : List Nat) (e : Ending) (w' : World) : Prop :=
  (mayP z S t = false ∧ e = .returned (.tuple #[.slice none 0 0, .int .i64 4]) ∧ Below w.heap.size w w') ∨
  (mayP z S t = true ∧ ¬ Has z S t i ∧ e = .returned (.tuple #[.slice none 0 0, .int .i64 6]) ∧ Below w.heap.size w w') ∨
  (mayP z S t = true ∧ Has z S t i ∧ (at_ < 0 ∨ ((szO z t i : Nat) : Int) < at_ + (p.length : Int)) ∧ e = .returned (.tuple #[.slice none 0 0, .int .i64 3]) ∧ Below w.heap.size w w') ∨
  (mayP z S t = true ∧ Has z S t i ∧ ¬ (at_ < 0 ∨ ((szO z t i : Nat) : Int) < at_ + (p.length : Int)) ∧ ∃ h cc, e = .returned (.tuple #[.slice (some ⟨h, 0, none⟩) 256 cc, .int .i64 0]) ∧
    PgO w' w.heap.size h cc (splL t (i.toNat * z + 8 + at_.toNat) p) ∧ Below w.heap.size w w')
theorem write18_any (k b q c : Nat) (i at_ : Int) (t : List Nat) (Ab : Option Addr) (nb cb : Nat) (p : List Nat) (w : World) (hat : at_ ≤ 9223372036854775807) (hS : SZ w) (hk : k < 8) (hs : BS w w.heap.size (some ⟨b, q, none⟩) 256 c t) (hsb : BS w w.heap.size Ab nb cb p) :
    Calls Tryd.prog 15 #[.slice (some ⟨b, q, none⟩) 256 c, .int .i64 (k : Int), .int .i64 i, .int .i64 at_, .slice Ab nb cb] w (WrTo w (clZ k) (clS k) t i at_ p) := by
  obtain ⟨z1, z2, z3, z4, z5, -⟩ := cl_fits k hk
  have HO := Lib.hid (find_any k b q c i t w hS hk hs)
  have HSB := Lib.hid hsb
  have hpl := hsb.len
  have hcap := hsb.cap
  clear hs hS hsb
  unfold FindTo at HO
  generalize clZ k = z at *
  generalize clS k = S at *
  go_enter Tryd.func15, Tryd.ntmps15
  go_wp2_with fail
  refine HO.out.mono ?_
  clear HO
  rintro e w1 (⟨hm, rfl, hb⟩ | ⟨hm, hh, rfl, hb⟩ | ⟨hm, hh, h, cc, rfl, hp, hb⟩)
  · have HR : Hid (WrTo w z S t i at_ p (.returned (.tuple #[.slice none 0 0, .int .i64 4])) w1) := Lib.hid (.inl ⟨hm, rfl, hb⟩)
    clear hm hb
    go_wp2_with fail
    go_ret2
    exact HR.out
  · have HR : Hid (WrTo w z S t i at_ p (.returned (.tuple #[.slice none 0 0, .int .i64 6])) w1) := Lib.hid (.inr (.inl ⟨hm, hh, rfl, hb⟩))
    clear hm hb hh
    go_wp2_with fail
    go_ret2
    exact HR.out
  · obtain ⟨h0, h1, h2⟩ := id hh
    have hj : i.toNat < S := by omega
    have hle := slot_le z3 hj
    have hbs := bs_win hp.bs z3 z1 hj
    rw [Nat.zero_add] at hbs
    obtain ⟨n1, n2, n3⟩ := brk_num (mayP_brk hm hj) h2
    have HOB := Lib.hid (object_w h _ z _ w1 hbs z1 z2 n1 n2)
    have HE : Hid (∀ w2, Below w.heap.size w w2 → (at_ < 0 ∨ ((num ((winL t z i.toNat).take 2) : Nat) : Int) < at_ + (p.length : Int)) → WrTo w z S t i at_ p (.returned (.tuple #[.slice none 0 0, .int .i64 3])) w2) := Lib.hid (fun w2 hb2 hc => .inr (.inr (.inl ⟨hm, hh, hc, rfl, hb2⟩)))
    have HY : Hid (∀ w2, ¬ (at_ < 0 ∨ ((num ((winL t z i.toNat).take 2) : Nat) : Int) < at_ + (p.length : Int)) → PgO w2 w.heap.size h cc (splL t (i.toNat * z + 8 + at_.toNat) p) → Below w.heap.size w w2 → WrTo w z S t i at_ p (.returned (.tuple #[.slice (some ⟨h, 0, none⟩) 256 cc, .int .i64 0])) w2) := Lib.hid (fun w2 hc hp2 hb2 => .inr (.inr (.inr ⟨hm, hh, hc, h, cc, rfl, hp2, hb2⟩)))
    have HP := Lib.hid hp
    have HB := Lib.hid hb
    clear hm hb hh h0 h1 h2 hj hbs n3 hp
    generalize num ((winL t z i.toNat).take 2) = n at *
    generalize i.toNat * z = m at *
    go_wp2_with fail
    refine HOB.out.mono ?_
    rintro e w2 ⟨rfl, hb⟩
    have HB2 := Lib.hid hb
    have HB3 := Lib.hid (HB.out.trans (hb.mono HB.out.size))
    clear hb
    by_cases ha : at_ < 0
    · have HR := Lib.hid (HE.out w2 HB3.out (.inl ha))
      clear HE HY
      go_wp2_with fail
      go_ret2
      exact HR.out
    · obtain ⟨a, rfl⟩ : ∃ a : Nat, at_ = (a : Int) := ⟨at_.toNat, by omega⟩
      have hwr : IntKind.i64.wrap ((n : Int) - (a : Int)) = (n : Int) - (a : Int) := IntWalk.i64_in _ (by omega)
      by_cases hc : (n : Int) - (a : Int) < (nb : Int)
      · have HR := Lib.hid (HE.out w2 HB3.out (.inr (by rw [hpl]; omega)))
        clear HE HY
        go_wp2_with fail
        go_ret2
        exact HR.out
      · have hp2 := HP.out.below HB2.out
        obtain ⟨cur, b1, b2, b3⟩ := hp2.blk
        have b1' : w2.heap[h]? = some (.cells cur.toList.toArray 5 (0, 0)) := by rw [Array.toArray_toList]; exact b1
        have hcl : cur.toList.length = cc := by rw [Array.length_toList]; exact b2
        have hc1 := hp2.c1
        have HG := Lib.hid b1'
        have HX := Lib.hid ((HSB.out.below HB3.out).more HB3.out.size)
        have HLN : Hid ((bvals p).length = Nat.min nb (n - a)) := Lib.hid (by rw [bvals_len, hpl]; exact (Nat.min_eq_left (by omega)).symm)
        have HFT : Hid (m + 8 + a + (bvals p).length ≤ cur.toList.length) := Lib.hid (by rw [bvals_len, hpl, hcl]; omega)
        have HF : Hid (∀ w3, w3.heap[h]? = some (.cells (splice cur.toList (m + 8 + a) (bvals p)).toArray 5 (0, 0)) → w2.grownBy w3 (some h) → WrTo w z S t i (a : Int) p (.returned (.tuple #[.slice (some ⟨h, 0, none⟩) 256 cc, .int .i64 0])) w3) :=
          Lib.hid (fun w3 e1 e2 => HY.out w3 (by rw [hpl]; omega) (by rw [Int.toNat_natCast]; exact PgO.spl hp2 b1' e1 (by rw [hpl]; omega) HX.out.byte) (below_own HB3.out hp2.hB e2))
        clear HE HY hp2 b1 b2 b3 b1'
        by_cases hna : n = a
        · subst hna
          have HLN0 : Hid ((bvals p).length = Nat.min nb 0) := Lib.hid (by rw [HLN.out, Nat.sub_self])
          have HRD : Hid (0 < (bvals p).length → ∃ ad, Ab = some ad ∧ ∀ j v, (bvals p)[j]? = some v → w2.cell? (ad.add j) = some v) := Lib.hid (fun hl => by
            rw [bvals_len, hpl] at hl
            have := bs_reads HX.out (k := nb) (Nat.le_refl _) hl
            rwa [List.take_of_length_le (by omega)] at this)
          go_wp2_with (have HR2 : Hid (0 < (bvals p).length → some (⟨h, m + 8, none⟩ : Addr) = some ⟨h, m + 8 + n, none⟩ ∧ ∃ ad, Ab = some ad ∧ ∀ j v, (bvals p)[j]? = some v → w2.cell? (ad.add j) = some v) := Lib.hid (fun hl => ⟨by have e := HLN0.out; rw [e] at hl; exact absurd hl (by simp), HRD.out hl⟩); with_reducible refine wp_copy_only rfl (.tmp 42) (.tmp 43) 23 23 rfl 5 Tryd.underlying23 size_u8 (some (⟨h, m + 8, none⟩ : Addr)) Ab 0 0 nb cb rfl rfl h (m + 8 + n) cur.toList 5 HG.out (bvals p) HLN0.out HR2.out HFT.out (bvals_one _) ?_; intro w3 hq3 hg3)
          have HFF := Lib.hid (HF.out w3 hq3.out hg3)
          clear hq3 hg3
          go_wp2
          go_ret2
          exact HFF.out
        · have HRD : Hid (0 < (bvals p).length → ∃ ad, Ab = some ad ∧ ∀ j v, (bvals p)[j]? = some v → w2.cell? (ad.add j) = some v) := Lib.hid (fun hl => by
            rw [bvals_len, hpl] at hl
            have := bs_reads HX.out (k := nb) (Nat.le_refl _) hl
            rwa [List.take_of_length_le (by omega)] at this)
          go_wp2_with (have HR2 : Hid (0 < (bvals p).length → some (⟨h, m + 8 + a, none⟩ : Addr) = some ⟨h, m + 8 + a, none⟩ ∧ ∃ ad, Ab = some ad ∧ ∀ j v, (bvals p)[j]? = some v → w2.cell? (ad.add j) = some v) := Lib.hid (fun hl => ⟨rfl, HRD.out hl⟩); with_reducible refine wp_copy_only rfl (.tmp 42) (.tmp 43) 23 23 rfl 5 Tryd.underlying23 size_u8 (some (⟨h, m + 8 + a, none⟩ : Addr)) Ab (n - a) (n - a) nb cb rfl rfl h (m + 8 + a) cur.toList 5 HG.out (bvals p) HLN.out HR2.out HFT.out (bvals_one _) ?_; intro w3 hq3 hg3)
          have HFF := Lib.hid (HF.out w3 hq3.out hg3)
          clear hq3 hg3
          go_wp2
          go_ret2
          exact HFF.out
end Go.Proofs.YtflgcddgocojpaaDoor
