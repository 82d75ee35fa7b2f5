/-
  Layer 18: one call, of both: none.
-/
import Derived.Test.YtflgcddgocojpaaDoorSlW
namespace Go.Proofs.YtflgcddgocojpaaDoor
open Go.RowKit Go
set_option linter.unusedVariables false
set_option linter.unusedSimpArgs false
set_option maxHeartbeats 2000000
set_option maxRecDepth 100000

theorem step_o (k b q c cl nb cb : Nat) (kd K N at_ : Int) (hkd : (¬ kd = 0 ∧ ¬ kd = 1 ∧ ¬ kd = 2 ∧ ¬ kd = 3 ∧ ¬ kd = 4 ∧ ¬ kd = 5 ∧ ¬ kd = 6)) (s : Nat) (A Ab : Option Addr) (l : List Ob) (pb : List Nat) (w : World) (hs64 : s < 2 ^ 64) (hat : at_ ≤ 9223372036854775807) (hS : SZ w) (hk : k < 8) (hp : PSt w (clZ k) (clS k) b q c A cl l) (hb : BS w w.heap.size Ab nb cb pb) (hbz : Ab = none → cb = 0) :
    Calls Tryd.prog 8 #[.slice (some ⟨b, q, none⟩) 256 c, .slice A (clS k) cl, .int .i64 (k : Int), .agg #[.int .i64 kd, .int .i64 K, .int .i64 N, .int .i64 at_, .int .u64 (s : Int), .slice Ab nb cb]] w (StTo w (clZ k) (clS k)) := by
  obtain ⟨z1, z2, z3, z4, z5, z6⟩ := cl_fits k hk
  have hbl := hb.len
  have hbc := hb.cap
  have hlen := hp.ok.len
  obtain ⟨m, pm, hcut, hbm⟩ : ∃ m pm, ((nb ≤ 130 ∧ m = nb) ∨ (130 < nb ∧ m = 130)) ∧ BS w w.heap.size Ab m cb pm := by
    by_cases h : nb ≤ 130
    · exact ⟨nb, pb, .inl ⟨h, rfl⟩, hb⟩
    · exact ⟨130, _, .inr ⟨by omega, rfl⟩, hb.take (by omega)⟩
  have HB5 : Hid (Below w.heap.size w (w.alloc (.cells #[.int .i64 kd, .int .i64 K, .int .i64 N, .int .i64 at_, .int .u64 (s : Int), .slice Ab m cb] 29))) := Lib.hid ((Below.refl _ _).alloc (Nat.le_refl _) _)
  have HXX : Hid (w.heap.size < (w.alloc (.cells #[.int .i64 kd, .int .i64 K, .int .i64 N, .int .i64 at_, .int .u64 (s : Int), .slice Ab m cb] 29)).heap.size) := Lib.hid (by simp)
  have HBC : Hid (∀ w', Below (w.alloc (.cells #[.int .i64 kd, .int .i64 K, .int .i64 N, .int .i64 at_, .int .u64 (s : Int), .slice Ab m cb] 29)).heap.size (w.alloc (.cells #[.int .i64 kd, .int .i64 K, .int .i64 N, .int .i64 at_, .int .u64 (s : Int), .slice Ab m cb] 29)) w' → w'.cell? ⟨w.heap.size, 0, none⟩ = some (.int .i64 kd) ∧ w'.cell? ⟨w.heap.size, 1, none⟩ = some (.int .i64 K) ∧ w'.cell? ⟨w.heap.size, 2, none⟩ = some (.int .i64 N) ∧ w'.cell? ⟨w.heap.size, 3, none⟩ = some (.int .i64 at_) ∧ w'.cell? ⟨w.heap.size, 4, none⟩ = some (.int .u64 (s : Int)) ∧ w'.cell? ⟨w.heap.size, 5, none⟩ = some (.slice Ab m cb)) := Lib.hid (fun w' h => by
    have e := heap_alloc_new w (.cells #[.int .i64 kd, .int .i64 K, .int .i64 N, .int .i64 at_, .int .u64 (s : Int), .slice Ab m cb] 29)
    exact ⟨(h.cell (p := ⟨w.heap.size, 0, none⟩) HXX.out).trans (blk_cell e 0), (h.cell (p := ⟨w.heap.size, 1, none⟩) HXX.out).trans (blk_cell e 1), (h.cell (p := ⟨w.heap.size, 2, none⟩) HXX.out).trans (blk_cell e 2), (h.cell (p := ⟨w.heap.size, 3, none⟩) HXX.out).trans (blk_cell e 3), (h.cell (p := ⟨w.heap.size, 4, none⟩) HXX.out).trans (blk_cell e 4), (h.cell (p := ⟨w.heap.size, 5, none⟩) HXX.out).trans (blk_cell e 5)⟩)
  have HP := Lib.hid (hp.below HB5.out)
  have hc0 : (convert 23 9 (.slice (some ⟨b, q, none⟩) 256 c)).run Tryd.prog (w.alloc (.cells #[.int .i64 kd, .int .i64 K, .int .i64 N, .int .i64 at_, .int .u64 (s : Int), .slice Ab m cb] 29)) = .ok (.string (str (pageO (clZ k) l))) (w.alloc (.cells #[.int .i64 kd, .int .i64 K, .int .i64 N, .int .i64 at_, .int .u64 (s : Int), .slice Ab m cb] 29)) := conv_at HP.out.pg
  have HCV : Hid (∀ w', Below (w.alloc (.cells #[.int .i64 kd, .int .i64 K, .int .i64 N, .int .i64 at_, .int .u64 (s : Int), .slice Ab m cb] 29)).heap.size (w.alloc (.cells #[.int .i64 kd, .int .i64 K, .int .i64 N, .int .i64 at_, .int .u64 (s : Int), .slice Ab m cb] 29)) w' → (convert 23 9 (.slice (some ⟨b, q, none⟩) 256 c)).run Tryd.prog w' = .ok (.string (str (pageO (clZ k) l))) w') := Lib.hid (fun w' h => conv_at (HP.out.pg.below h))
  have HSZ := Lib.hid (fun W (h : Below (w.alloc (.cells #[.int .i64 kd, .int .i64 K, .int .i64 N, .int .i64 at_, .int .u64 (s : Int), .slice Ab m cb] 29)).heap.size (w.alloc (.cells #[.int .i64 kd, .int .i64 K, .int .i64 N, .int .i64 at_, .int .u64 (s : Int), .slice Ab m cb] 29)) W) => rsize_n k hk W (hS.below (HB5.out.trans (h.mono HB5.out.size))))
  have HST : Hid (∀ w', Below (w.alloc (.cells #[.int .i64 kd, .int .i64 K, .int .i64 N, .int .i64 at_, .int .u64 (s : Int), .slice Ab m cb] 29)).heap.size (w.alloc (.cells #[.int .i64 kd, .int .i64 K, .int .i64 N, .int .i64 at_, .int .u64 (s : Int), .slice Ab m cb] 29)) w' → StTo w (clZ k) (clS k) (.returned (.tuple #[.slice (some ⟨b, q, none⟩) 256 c, .slice A (clS k) cl, .bool true])) w') := Lib.hid (fun w' h => ⟨HB5.out.trans (h.mono HB5.out.size), b, q, c, A, cl, l, rfl, HP.out.below h⟩)
  have HSN : Hid (∀ w' b' q' c' A' cl' l', Below (w.alloc (.cells #[.int .i64 kd, .int .i64 K, .int .i64 N, .int .i64 at_, .int .u64 (s : Int), .slice Ab m cb] 29)).heap.size (w.alloc (.cells #[.int .i64 kd, .int .i64 K, .int .i64 N, .int .i64 at_, .int .u64 (s : Int), .slice Ab m cb] 29)) w' → PSt w' (clZ k) (clS k) b' q' c' A' cl' l' → StTo w (clZ k) (clS k) (.returned (.tuple #[.slice (some ⟨b', q', none⟩) 256 c', .slice A' (clS k) cl', .bool true])) w') := Lib.hid (fun w' b' q' c' A' cl' l' h hp => ⟨HB5.out.trans (h.mono HB5.out.size), b', q', c', A', cl', l', rfl, hp⟩)
  have HPG := Lib.hid (fun W (h : Below (w.alloc (.cells #[.int .i64 kd, .int .i64 K, .int .i64 N, .int .i64 at_, .int .u64 (s : Int), .slice Ab m cb] 29)).heap.size (w.alloc (.cells #[.int .i64 kd, .int .i64 K, .int .i64 N, .int .i64 at_, .int .u64 (s : Int), .slice Ab m cb] 29)) W) A cc l' (hv : ObV W A (clS k) l') (hok : OkL (clZ k) (clS k) l') => page18_any k A (clS k) cc l' W (hS.below (HB5.out.trans (h.mono HB5.out.size))) hk hv z3 (fun i => by have := (hok.at_ i).long; omega) (fun i => by have := (hok.at_ i).ser; omega))
  have HEQ : Hid (∀ l', OkL (clZ k) (clS k) l' → ∀ i, (pageO (clZ k) l').getD i 0 < 256) := Lib.hid (fun l' h => page_byte (by omega) (fun j => (h.at_ j).byte))
  obtain ⟨k0, k1, k2, k3, k4, k5, k6⟩ := hkd
  have HF := Lib.hid (HST.out _ (Below.refl _ _))
  clear HSZ HSN HPG HEQ
  clear hbz
  have HLEN := Lib.hid hlen
  have HRF := Lib.hid (Below.refl (w.alloc (.cells #[.int .i64 kd, .int .i64 K, .int .i64 N, .int .i64 at_, .int .u64 (s : Int), .slice Ab m cb] 29)).heap.size (w.alloc (.cells #[.int .i64 kd, .int .i64 K, .int .i64 N, .int .i64 at_, .int .u64 (s : Int), .slice Ab m cb] 29)))
  have hbc1 := hbc.1
  clear hp hb hbl hbc hbm hS hlen
  have HZ6 := Lib.hid z6
  clear z6
  generalize str (pageO (clZ k) l) = sp at *
  generalize szN k = zz at *
  generalize clZ k = z at *
  generalize clS k = S at *
  rcases hcut with ⟨h130, rfl⟩ | ⟨h130, rfl⟩
  · have h1I : ¬ (130 : Int) < (m : Int) := by omega
    go_enter Tryd.func8, Tryd.ntmps8
    go_wp2_with fail
    go_ret3
    exact HF.out
  · have h1I : (130 : Int) < (nb : Int) := by omega
    have h130c : 130 ≤ cb := by omega
    go_enter Tryd.func8, Tryd.ntmps8
    go_wp2_with fail
    go_ret3
    exact HF.out

end Go.Proofs.YtflgcddgocojpaaDoor
