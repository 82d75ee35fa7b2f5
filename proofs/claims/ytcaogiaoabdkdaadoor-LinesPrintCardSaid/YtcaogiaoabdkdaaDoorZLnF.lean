/-
  Joined: LnD, LnE, LnF.
-/
import Derived.Test.YtcaogiaoabdkdaaDoorZLnC
namespace Go.Proofs.YtcaogiaoabdkdaaDoor
set_option maxRecDepth 100000
section
open Go.RowKit Go
set_option linter.unusedVariables false
set_option linter.unusedSimpArgs false
set_option maxRecDepth 100000
set_option maxHeartbeats 1000000
theorem rmay31_any (K : Int) (y : Bool) (z1 z2 z3 z4 : Int) (A : Option Addr) (n c : Nat) (b : List Nat) (hbn : b.length = n) (hn9 : n ≤ 9223372036854775807) (w : World) :
    Calls Tryd.prog 9 #[.agg #[.int .i64 K, .bool y, .int .i64 z1, .int .i64 z2, .int .i64 z3, .int .i64 z4, .slice A n c]] w fun e w' => e = .returned (.bool (mayLn ⟨K, y, z1, z2, z3, z4, b⟩)) ∧ Below w.heap.size w w' := by
  have HB0 : Hid (Below w.heap.size w (w.alloc (.cells #[.int .i64 K, .bool y, .int .i64 z1, .int .i64 z2, .int .i64 z3, .int .i64 z4, .slice A n c] 26))) := Lib.hid ((Below.refl _ _).alloc (Nat.le_refl _) _)
  have HXX : Hid (w.heap.size < (w.alloc (.cells #[.int .i64 K, .bool y, .int .i64 z1, .int .i64 z2, .int .i64 z3, .int .i64 z4, .slice A n c] 26)).heap.size) := Lib.hid (by simp)
  have HE : Hid ((w.alloc (.cells #[.int .i64 K, .bool y, .int .i64 z1, .int .i64 z2, .int .i64 z3, .int .i64 z4, .slice A n c] 26)).heap[w.heap.size]? = some (.cells #[.int .i64 K, .bool y, .int .i64 z1, .int .i64 z2, .int .i64 z3, .int .i64 z4, .slice A n c] 26 (0, 0))) := Lib.hid (heap_alloc_new _ _)
  have HM := Lib.hid (rmay_any K y z1 z2 z3 z4 A n c b hbn hn9 (w.alloc (.cells #[.int .i64 K, .bool y, .int .i64 z1, .int .i64 z2, .int .i64 z3, .int .i64 z4, .slice A n c] 26)))
  have HR : Hid (mayLn ⟨K, y, z1, z2, z3, z4, b⟩ = (mayA ⟨K, y, z1, z2, z3, z4, b⟩ && (decide (K ≠ 11) || !y || decide (z1 = 0)))) := Lib.hid rfl
  generalize mayLn ⟨K, y, z1, z2, z3, z4, b⟩ = R at *
  generalize mayA ⟨K, y, z1, z2, z3, z4, b⟩ = M at *
  clear hbn
  go_enter Tryd.func9, Tryd.ntmps9
  go_wp2_with fail
  refine HM.out.mono ?_
  rintro e w1 ⟨rfl, hb⟩
  have p0 : w1.cell? ⟨w.heap.size, 0, none⟩ = some (.int .i64 K) := (hb.cell (p := ⟨w.heap.size, 0, none⟩) HXX.out).trans (blk_cell HE.out 0)
  have p1 : w1.cell? ⟨w.heap.size, 1, none⟩ = some (.bool y) := (hb.cell (p := ⟨w.heap.size, 1, none⟩) HXX.out).trans (blk_cell HE.out 1)
  have p2 : w1.cell? ⟨w.heap.size, 2, none⟩ = some (.int .i64 z1) := (hb.cell (p := ⟨w.heap.size, 2, none⟩) HXX.out).trans (blk_cell HE.out 2)
  have HF := Lib.hid (HB0.out.trans (hb.mono HB0.out.size))
  clear hb
  cases M
  · have hR : R = false := by rw [HR.out]; rfl
    subst hR
    clear HR
    go_wp2_with fail
    go_ret
    exact ⟨rfl, HF.out⟩
  · by_cases h1 : K = 11
    · subst h1
      cases y
      · have hR : R = true := by rw [HR.out]; rfl
        subst hR
        clear HR
        go_wp2_with fail
        go_ret
        exact ⟨rfl, HF.out⟩
      · by_cases h2 : z1 = 0
        · have hR : R = true := by rw [HR.out, h2]; rfl
          subst hR h2
          clear HR
          go_wp2_with fail
          go_ret
          exact ⟨rfl, HF.out⟩
        · have hR : R = false := by rw [HR.out, decide_eq_false h2]; rfl
          subst hR
          have h3 : (z1 == 0) = false := by rw [beq_eq_false_iff_ne]; exact h2
          clear HR h2
          go_wp2_with fail
          go_ret
          exact ⟨rfl, HF.out⟩
    · have hR : R = true := by rw [HR.out, decide_eq_true h1]; rfl
      subst hR
      have h3 : (K != 11) = true := by rw [bne_iff_ne]; exact h1
      clear HR h1
      go_wp2_with fail
      go_ret
      exact ⟨rfl, HF.out⟩
def namesV : Array Value := #[.string ⟨#[102, 111, 114, 109, 97, 116]⟩, .string ⟨#[111, 112, 101, 110]⟩, .string ⟨#[99, 108, 111, 115, 101]⟩, .string ⟨#[98, 101, 103, 105, 110]⟩, .string ⟨#[99, 111, 109, 109, 105, 116]⟩, .string ⟨#[97, 98, 111, 114, 116]⟩, .string ⟨#[97, 108, 108, 111, 99]⟩, .string ⟨#[102, 114, 101, 101]⟩, .string ⟨#[114, 101, 97, 108, 108, 111, 99]⟩, .string ⟨#[119, 114, 105, 116, 101]⟩, .string ⟨#[114, 101, 97, 100]⟩, .string ⟨#[115, 101, 116]⟩, .string ⟨#[114, 111, 111, 116]⟩, .string ⟨#[115, 105, 122, 101]⟩, .string ⟨#[115, 116, 97, 116]⟩, .string ⟨#[99, 104, 101, 99, 107]⟩, .string ⟨#[99, 114, 97, 115, 104]⟩, .string ⟨#[97, 114, 109]⟩, .string ⟨#[116, 97, 109, 112, 101, 114]⟩, .string ⟨#[111, 110]⟩]
theorem namesV_at : ∀ k, k < 20 → namesV[k]? = some (.string (str (namesL.getD k []))) := by
  intro k hk
  match k, hk with
  | 0, _ => exact (show namesV[0]? = some (.string (str (namesL.getD 0 []))) by kernel_rfl)
  | 1, _ => exact (show namesV[1]? = some (.string (str (namesL.getD 1 []))) by kernel_rfl)
  | 2, _ => exact (show namesV[2]? = some (.string (str (namesL.getD 2 []))) by kernel_rfl)
  | 3, _ => exact (show namesV[3]? = some (.string (str (namesL.getD 3 []))) by kernel_rfl)
  | 4, _ => exact (show namesV[4]? = some (.string (str (namesL.getD 4 []))) by kernel_rfl)
  | 5, _ => exact (show namesV[5]? = some (.string (str (namesL.getD 5 []))) by kernel_rfl)
  | 6, _ => exact (show namesV[6]? = some (.string (str (namesL.getD 6 []))) by kernel_rfl)
  | 7, _ => exact (show namesV[7]? = some (.string (str (namesL.getD 7 []))) by kernel_rfl)
  | 8, _ => exact (show namesV[8]? = some (.string (str (namesL.getD 8 []))) by kernel_rfl)
  | 9, _ => exact (show namesV[9]? = some (.string (str (namesL.getD 9 []))) by kernel_rfl)
  | 10, _ => exact (show namesV[10]? = some (.string (str (namesL.getD 10 []))) by kernel_rfl)
  | 11, _ => exact (show namesV[11]? = some (.string (str (namesL.getD 11 []))) by kernel_rfl)
  | 12, _ => exact (show namesV[12]? = some (.string (str (namesL.getD 12 []))) by kernel_rfl)
  | 13, _ => exact (show namesV[13]? = some (.string (str (namesL.getD 13 []))) by kernel_rfl)
  | 14, _ => exact (show namesV[14]? = some (.string (str (namesL.getD 14 []))) by kernel_rfl)
  | 15, _ => exact (show namesV[15]? = some (.string (str (namesL.getD 15 []))) by kernel_rfl)
  | 16, _ => exact (show namesV[16]? = some (.string (str (namesL.getD 16 []))) by kernel_rfl)
  | 17, _ => exact (show namesV[17]? = some (.string (str (namesL.getD 17 []))) by kernel_rfl)
  | 18, _ => exact (show namesV[18]? = some (.string (str (namesL.getD 18 []))) by kernel_rfl)
  | 19, _ => exact (show namesV[19]? = some (.string (str (namesL.getD 19 []))) by kernel_rfl)
  | k + 20, h => exact absurd h (by omega)
def NmTo (w : World) (e : Ending) (w' : World) : Prop := ∃ g, e = .returned (.slice (some ⟨g, 0, none⟩) 20 20) ∧ w.heap.size ≤ g ∧ g < w'.heap.size ∧ Below w.heap.size w w' ∧ ∀ k, k < 20 → w'.cell? ⟨g, k, none⟩ = some (.string (str (namesL.getD k [])))
theorem names_any (w : World) : Calls Tryd.prog 20 #[] w (NmTo w) := by
  have HF : Hid (NmTo w (.returned (.slice (some ⟨w.heap.size, 0, none⟩) 20 20)) (w.alloc (.cells namesV 9))) := Lib.hid ⟨w.heap.size, rfl, Nat.le_refl _, by simp, (Below.refl _ _).alloc (Nat.le_refl _) _, fun k hk => (blk_cell (heap_alloc_new _ _) k).trans (namesV_at k hk)⟩
  unfold namesV at HF
  go_enter Tryd.func20, Tryd.ntmps20
  go_wp2_with fail
  go_ret
  exact HF.out
end
section
open Go.RowKit Go
set_option linter.unusedVariables false
set_option linter.unusedSimpArgs false
set_option maxRecDepth 100000
set_option maxHeartbeats 4000000
theorem join_snoc (l : List (List Nat)) (h : l ≠ []) (x : List Nat) : joinW (l ++ [x]) = joinW l ++ 32 :: x := by
  induction l with
  | nil => exact absurd rfl h
  | cons u l ih =>
    cases l with
    | nil => simp [joinW]
    | cons v r =>
      have := ih (by simp)
      have e1 : joinW (u :: v :: r ++ [x]) = u ++ 32 :: joinW (v :: r ++ [x]) := by simp [joinW]
      have e2 : joinW (u :: v :: r) = u ++ 32 :: joinW (v :: r) := by simp [joinW]
      rw [e1, e2, this]; simp
/-- the line's head, and its first fields -/
def preA (a : Ac) (j : Nat) : List Nat := joinW (namesL.getD a.kind.toNat [] :: ((ordL a.kind.toNat).take j).map (fldW a))
theorem preA_next (a : Ac) {j : Nat} (hj : j < (ordL a.kind.toNat).length) : preA a (j + 1) = preA a j ++ 32 :: fldW a ((ordL a.kind.toNat).getD j 0) := by
  unfold preA
  have hg : (ordL a.kind.toNat).getD j 0 = (ordL a.kind.toNat)[j] := by rw [List.getD_eq_getElem?_getD, List.getElem?_eq_getElem hj]; rfl
  rw [hg, List.take_add_one, List.getElem?_eq_getElem hj, Option.toList_some, List.map_append]
  have := join_snoc (namesL.getD a.kind.toNat [] :: ((ordL a.kind.toNat).take j).map (fldW a)) (by simp) (fldW a ((ordL a.kind.toNat)[j]))
  rw [List.cons_append] at this
  exact this
theorem preA_end (a : Ac) : preA a (ordL a.kind.toNat).length = lineA a := by
  unfold preA lineA wrdsA
  rw [List.take_of_length_le (Nat.le_refl _)]
theorem ord_in : ∀ kd, kd < 20 → ∀ j, j < (ordL kd).length → (ordL kd).getD j 0 = 119 ∨ (ordL kd).getD j 0 = 107 ∨ (ordL kd).getD j 0 = 110 ∨ (ordL kd).getD j 0 = 97 ∨ (ordL kd).getD j 0 = 98 ∨ (ordL kd).getD j 0 = 111 ∨ (ordL kd).getD j 0 = 115 := by
  have : ∀ kd, kd < 20 → (ordL kd).all (fun c => decide (c = 119 ∨ c = 107 ∨ c = 110 ∨ c = 97 ∨ c = 98 ∨ c = 111 ∨ c = 115)) = true := by decide
  intro kd hk j hj
  have h := List.all_eq_true.1 (this kd hk) _ (List.getElem_mem hj)
  rw [List.getD_eq_getElem?_getD, List.getElem?_eq_getElem hj]
  exact of_decide_eq_true h
theorem ord_byte (kd : Nat) (hk : kd < 20) (i : Nat) : (ordL kd).getD i 0 < 256 := by
  by_cases h : i < (ordL kd).length
  · have := ord_in kd hk i h; omega
  · rw [List.getD_eq_getElem?_getD, List.getElem?_eq_none (by omega)]; exact Nat.zero_lt_succ _
theorem ord_len : ∀ kd, kd < 20 → (ordL kd).length ≤ 3 := by decide
theorem name_len : ∀ kd, kd < 20 → (namesL.getD kd []).length ≤ 7 := by decide
theorem fld_len (a : Ac) (hw : a.which.toNat ≤ 65535) (hk : a.k.toNat ≤ 65535) (hn : a.n.toNat ≤ 65535) (hp : a.pos.toNat ≤ 65535) (hb : a.b.length ≤ 1024) (c : Nat) : (fldW a c).length ≤ 2100 := by
  have h : ∀ n, n ≤ 65535 → (numL n).length ≤ 2100 := fun n hn => Nat.le_trans (numL_len n 4 (by omega)) (by omega)
  have h2 : (hexL a.b).length ≤ 2100 := by
    unfold hexL; split
    · simp
    · have := hexP_len a.b
      unfold hexP at this
      omega
  unfold fldW
  repeat' split
  all_goals first | (exact h _ (by assumption)) | exact h2 | (simp [wrW, rdW, noW])
theorem pre_len (a : Ac) (hk : a.kind.toNat < 20) (h : ∀ c, (fldW a c).length ≤ 2100) (j : Nat) (hj : j ≤ (ordL a.kind.toNat).length) : (preA a j).length ≤ 7 + 2101 * j := by
  induction j with
  | zero =>
    unfold preA
    have := name_len _ hk
    simpa [joinW] using this
  | succ j ih =>
    rw [preA_next a (by omega), List.length_append, List.length_cons]
    have := ih (by omega)
    have := h ((ordL a.kind.toNat).getD j 0)
    omega
def LiR (w : World) (a : Ac) (sv iv : Value) (wr : World) : Prop := ∃ j : Nat, iv = .int .i64 (j : Int) ∧ sv = .string (str (preA a j)) ∧ j ≤ (ordL a.kind.toNat).length ∧ Below w.heap.size w wr
end
section
open Go.RowKit Go
set_option linter.unusedVariables false
set_option linter.unusedSimpArgs false
set_option maxRecDepth 100000
set_option maxHeartbeats 1000000
theorem rline_any (kd z1 z2 z3 z4 : Nat) (y : Bool) (A : Option Addr) (n c : Nat) (b : List Nat) (w : World) (hkd : kd < 20) (hz1 : z1 ≤ 65535) (hz2 : z2 ≤ 65535) (hz3 : z3 ≤ 65535) (hz4 : z4 ≤ 65535) (hs : BS w w.heap.size A n c b) (hn : n ≤ 1024) :
    Calls Tryd.prog 10 #[.agg #[.int .i64 (kd : Int), .bool y, .int .i64 (z1 : Int), .int .i64 (z2 : Int), .int .i64 (z3 : Int), .int .i64 (z4 : Int), .slice A n c]] w (GivesS w (lineA ⟨kd, y, z1, z2, z3, z4, b⟩)) := by
  have HB0 : Hid (Below w.heap.size w (w.alloc (.cells #[.int .i64 (kd : Int), .bool y, .int .i64 (z1 : Int), .int .i64 (z2 : Int), .int .i64 (z3 : Int), .int .i64 (z4 : Int), .slice A n c] 26))) := Lib.hid ((Below.refl _ _).alloc (Nat.le_refl _) _)
  have HXX : Hid (w.heap.size < (w.alloc (.cells #[.int .i64 (kd : Int), .bool y, .int .i64 (z1 : Int), .int .i64 (z2 : Int), .int .i64 (z3 : Int), .int .i64 (z4 : Int), .slice A n c] 26)).heap.size) := Lib.hid (by simp)
  have HBC : Hid (∀ w', Below (w.alloc (.cells #[.int .i64 (kd : Int), .bool y, .int .i64 (z1 : Int), .int .i64 (z2 : Int), .int .i64 (z3 : Int), .int .i64 (z4 : Int), .slice A n c] 26)).heap.size (w.alloc (.cells #[.int .i64 (kd : Int), .bool y, .int .i64 (z1 : Int), .int .i64 (z2 : Int), .int .i64 (z3 : Int), .int .i64 (z4 : Int), .slice A n c] 26)) w' → w'.cell? ⟨w.heap.size, 0, none⟩ = some (.int .i64 (kd : Int)) ∧ w'.cell? ⟨w.heap.size, 1, none⟩ = some (.bool y) ∧ w'.cell? ⟨w.heap.size, 2, none⟩ = some (.int .i64 (z1 : Int)) ∧ w'.cell? ⟨w.heap.size, 3, none⟩ = some (.int .i64 (z2 : Int)) ∧ w'.cell? ⟨w.heap.size, 4, none⟩ = some (.int .i64 (z3 : Int)) ∧ w'.cell? ⟨w.heap.size, 5, none⟩ = some (.int .i64 (z4 : Int)) ∧ w'.cell? ⟨w.heap.size, 6, none⟩ = some (.slice A n c)) := Lib.hid (fun w' h => by
    have e := heap_alloc_new w (.cells #[.int .i64 (kd : Int), .bool y, .int .i64 (z1 : Int), .int .i64 (z2 : Int), .int .i64 (z3 : Int), .int .i64 (z4 : Int), .slice A n c] 26)
    exact ⟨(h.cell (p := ⟨w.heap.size, 0, none⟩) HXX.out).trans (blk_cell e 0), (h.cell (p := ⟨w.heap.size, 1, none⟩) HXX.out).trans (blk_cell e 1), (h.cell (p := ⟨w.heap.size, 2, none⟩) HXX.out).trans (blk_cell e 2), (h.cell (p := ⟨w.heap.size, 3, none⟩) HXX.out).trans (blk_cell e 3), (h.cell (p := ⟨w.heap.size, 4, none⟩) HXX.out).trans (blk_cell e 4), (h.cell (p := ⟨w.heap.size, 5, none⟩) HXX.out).trans (blk_cell e 5), (h.cell (p := ⟨w.heap.size, 6, none⟩) HXX.out).trans (blk_cell e 6)⟩)
  have HNM := Lib.hid (fun W (z : Nat) (hz : z ≤ 65535) => rnum_any z (by omega) W)
  have HHX := Lib.hid (fun W (h : Below (w.alloc (.cells #[.int .i64 (kd : Int), .bool y, .int .i64 (z1 : Int), .int .i64 (z2 : Int), .int .i64 (z3 : Int), .int .i64 (z4 : Int), .slice A n c] 26)).heap.size (w.alloc (.cells #[.int .i64 (kd : Int), .bool y, .int .i64 (z1 : Int), .int .i64 (z2 : Int), .int .i64 (z3 : Int), .int .i64 (z4 : Int), .slice A n c] 26)) W) => rhex_any A n c b W ((hs.below (HB0.out.trans (h.mono HB0.out.size))).more (HB0.out.trans (h.mono HB0.out.size)).size) (by omega))
  have HNA := Lib.hid (fun W => names_any W)
  have HOD := Lib.hid (fun W => order_any kd hkd W)
  have hbl := hs.len
  obtain ⟨a, ha⟩ : ∃ a : Ac, a = ⟨kd, y, z1, z2, z3, z4, b⟩ := ⟨_, rfl⟩
  have HA := Lib.hid ha
  have hak : a.kind.toNat = kd := by rw [ha]; rfl
  have HFLD : Hid (∀ x, (fldW a x).length ≤ 2100) := Lib.hid (fld_len a (by rw [ha]; exact hz1) (by rw [ha]; exact hz2) (by rw [ha]; exact hz3) (by rw [ha]; exact hz4) (by rw [ha]; show b.length ≤ 1024; omega))
  have HPL : Hid (∀ j, j ≤ (ordL kd).length → (preA a j).length ≤ 7 + 2101 * j) := Lib.hid (fun j hj => pre_len a (by rw [hak]; exact hkd) HFLD.out j (by rw [hak]; exact hj))
  have HPN : Hid (∀ j, j < (ordL kd).length → preA a (j + 1) = preA a j ++ 32 :: fldW a ((ordL kd).getD j 0)) := Lib.hid (fun j hj => by have := preA_next a (j := j) (by rw [hak]; exact hj); rwa [hak] at this)
  have HPE : Hid (preA a (ordL kd).length = lineA a) := Lib.hid (by have := preA_end a; rwa [hak] at this)
  have HP0 : Hid (preA a 0 = namesL.getD kd []) := Lib.hid (by unfold preA; rw [hak]; simp [joinW])
  have HOI := Lib.hid (ord_in kd hkd)
  have HOL := Lib.hid (ord_len kd hkd)
  have HI := Lib.hid (fun j (h : j < (ordL kd).length) => idx_at (ord_byte kd hkd) h)
  have HLR : Hid (∀ sv iv wr, LiR (w.alloc (.cells #[.int .i64 (kd : Int), .bool y, .int .i64 (z1 : Int), .int .i64 (z2 : Int), .int .i64 (z3 : Int), .int .i64 (z4 : Int), .slice A n c] 26)) a sv iv wr ↔ ∃ j : Nat, iv = .int .i64 (j : Int) ∧ sv = .string (str (preA a j)) ∧ j ≤ (ordL kd).length ∧ Below (w.alloc (.cells #[.int .i64 (kd : Int), .bool y, .int .i64 (z1 : Int), .int .i64 (z2 : Int), .int .i64 (z3 : Int), .int .i64 (z4 : Int), .slice A n c] 26)).heap.size (w.alloc (.cells #[.int .i64 (kd : Int), .bool y, .int .i64 (z1 : Int), .int .i64 (z2 : Int), .int .i64 (z3 : Int), .int .i64 (z4 : Int), .slice A n c] 26)) wr) := Lib.hid (fun sv iv wr => by unfold LiR; rw [hak])
  have hsz := str_size (ordL kd)
  have hkI : (kd : Int) < 20 := by omega
  rw [← ha]
  clear hs hbl hak ha
  go_enter Tryd.func10, Tryd.ntmps10
  go_upto_region 1 with (fail)
  refine wp_region_F (S := (fun w' => Below (w.alloc (.cells #[.int .i64 (kd : Int), .bool y, .int .i64 (z1 : Int), .int .i64 (z2 : Int), .int .i64 (z3 : Int), .int .i64 (z4 : Int), .slice A n c] 26)).heap.size (w.alloc (.cells #[.int .i64 (kd : Int), .bool y, .int .i64 (z1 : Int), .int .i64 (z2 : Int), .int .i64 (z3 : Int), .int .i64 (z4 : Int), .slice A n c] 26)) w')) [] (by kernel_rfl) ((Below.refl _ _).drew) (fun hHeld => ?_)
  (try simp only [Act.put, List.getElem_toArray, List.getElem_cons_succ, List.getElem_cons_zero, List.setIfInBounds_toArray, List.set_cons_zero, List.set_cons_succ])
  refine wpAnyF_take (i := 1) (oi := _) (v := ?_) rfl (by kernel_rfl) (by kernel_rfl) (by kernel_rfl) (by kernel_rfl) (fun _ _ _ h => h) (Or.inl ⟨by rfl, ?_⟩) (by assumption) ?_
  rotate_left 1
  · intro w hSw
    (try dsimp only at hSw)
    obtain ⟨q0, q1, q2, q3, q4, q5, q6⟩ := HBC.out w hSw
    (first | (go_simp; done) | (go_simp; with_reducible rfl))
  (try simp only [Act.put, List.getElem_toArray, List.getElem_cons_succ, List.getElem_cons_zero, List.setIfInBounds_toArray, List.set_cons_zero, List.set_cons_succ])
  refine wpAnyF_take (i := 2) (oi := _) (v := ?_) rfl (by kernel_rfl) (by kernel_rfl) (by kernel_rfl) (by kernel_rfl) (fun _ _ _ h => h) (Or.inl ⟨by rfl, ?_⟩) (by assumption) ?_
  rotate_left 1
  · intro w hSw
    (try dsimp only at hSw)
    obtain ⟨q0, q1, q2, q3, q4, q5, q6⟩ := HBC.out w hSw
    (first | (go_simp; done) | (go_simp; with_reducible rfl))
  (try simp only [Act.put, List.getElem_toArray, List.getElem_cons_succ, List.getElem_cons_zero, List.setIfInBounds_toArray, List.set_cons_zero, List.set_cons_succ])
  refine wpAnyF_ready (rs := [0]) (by kernel_rfl) (by simp) ?_
  refine AllReadyF.cons (o := _) rfl (fun K hK => ?_) AllReadyF.nil
  go_simp
  (go_at_call 20)
  ((with_reducible refine (HNA.out _).mono ?_))
  rintro e w5 ⟨g5, rfl, hg5, hlt5, hb5, hc5⟩
  have HB5 := Lib.hid (hHeld.trans (hb5.mono hHeld.size))
  have HC5 := Lib.hid ((show _ = some (Value.string (str (preA a 0))) from (hc5 kd hkd).trans (by rw [HP0.out])))
  clear hb5 hc5 hg5 hlt5
  refine hK.out _ _ (HB5.out) (fun hHeld0 => ?_)
  clear hK K
  (try simp only [Act.put, List.getElem_toArray, List.getElem_cons_succ, List.getElem_cons_zero, List.setIfInBounds_toArray, List.set_cons_zero, List.set_cons_succ])
  refine wpAnyF_take (i := 3) (oi := _) (v := ?_) rfl (by kernel_rfl) (by kernel_rfl) (by kernel_rfl) (by kernel_rfl) (fun _ _ _ h => h) (Or.inl ⟨by rfl, ?_⟩) (by assumption) ?_
  rotate_left 1
  · intro w hSw
    (try dsimp only at hSw)
    (first | (go_simp; done) | (go_simp; with_reducible rfl))
  (try simp only [Act.put, List.getElem_toArray, List.getElem_cons_succ, List.getElem_cons_zero, List.setIfInBounds_toArray, List.set_cons_zero, List.set_cons_succ])
  refine wpAnyF_ready (rs := [4]) (by kernel_rfl) (by simp) ?_
  refine AllReadyF.cons (o := _) rfl (fun K hK => ?_) AllReadyF.nil
  have hq := HC5.out
  go_simp
  refine hK.out _ _ (HB5.out) (fun hHeld4 => ?_)
  clear hK K
  (try simp only [Act.put, List.getElem_toArray, List.getElem_cons_succ, List.getElem_cons_zero, List.setIfInBounds_toArray, List.set_cons_zero, List.set_cons_succ])
  refine wpAnyF_take (i := 5) (oi := _) (v := ?_) rfl (by kernel_rfl) (by kernel_rfl) (by kernel_rfl) (by kernel_rfl) (fun _ _ _ h => h) (Or.inl ⟨by rfl, ?_⟩) (by assumption) ?_
  rotate_left 1
  · intro w hSw
    (try dsimp only at hSw)
    (first | (go_simp; done) | (go_simp; with_reducible rfl))
  (try simp only [Act.put, List.getElem_toArray, List.getElem_cons_succ, List.getElem_cons_zero, List.setIfInBounds_toArray, List.set_cons_zero, List.set_cons_succ])
  refine wpAnyF_done (by kernel_rfl) ?_ _
  have HST := Lib.hid ((HLR.out (.string (str (preA a 0))) (.int .i64 0) w5).2 ⟨0, rfl, rfl, Nat.zero_le _, HB5.out⟩)
  have HC6 := HC5
  obtain ⟨q0, q1, q2, q3, q4, q5, q6⟩ := HBC.out w5 HB5.out
  clear HC5 HC6
  go_wp2_with fail
  refine (HOD.out _).mono ?_
  rintro e w6 ⟨rfl, rfl⟩
  clear q0 q1 q2 q3 q4 q5 q6
  go_wp2_with fail
  go_loopw [3, 5] (fun sv iv wr => LiR (w.alloc (.cells #[.int .i64 (kd : Int), .bool y, .int .i64 (z1 : Int), .int .i64 (z2 : Int), .int .i64 (z3 : Int), .int .i64 (z4 : Int), .slice A n c] 26)) a sv iv wr) (fun _ iv _ => (((ordL kd).length : Int) - intOf iv).toNat)
  case atStart => exact HST.out
  case round =>
    clear HST
    rw [HLR.out] at hrel
    obtain ⟨j, rfl, rfl, hj, hb⟩ := hrel
    have HB := Lib.hid hb
    clear hb
    by_cases hlt : j < (ordL kd).length
    · have HFW := Lib.hid (HPN.out j hlt)
      have hix := HI.out j hlt wr
      have h7 := HOI.out j hlt
      have hj3 : j < 3 := Nat.lt_of_lt_of_le hlt HOL.out
      have hl1 := HPL.out j hj
      have hl2 := HFLD.out ((ordL kd).getD j 0)
      have hs1 : (str (preA a j)).size + (⟨#[32]⟩ : ByteArray).size ≤ 9223372036854775807 := by
        rw [str_size, show (⟨#[32]⟩ : ByteArray).size = 1 from rfl]; omega
      have hs2 : (str (preA a j) ++ ⟨#[32]⟩).size + (str (fldW a ((ordL kd).getD j 0))).size ≤ 9223372036854775807 := by
        rw [show (⟨#[32]⟩ : ByteArray) = str [32] from by kernel_rfl, str_app, str_size, str_size, List.length_append]; simp only [List.length_cons, List.length_nil]; omega
      have HQ : Hid (∀ W, Below (w.alloc (.cells #[.int .i64 (kd : Int), .bool y, .int .i64 (z1 : Int), .int .i64 (z2 : Int), .int .i64 (z3 : Int), .int .i64 (z4 : Int), .slice A n c] 26)).heap.size (w.alloc (.cells #[.int .i64 (kd : Int), .bool y, .int .i64 (z1 : Int), .int .i64 (z2 : Int), .int .i64 (z3 : Int), .int .i64 (z4 : Int), .slice A n c] 26)) W → LiR (w.alloc (.cells #[.int .i64 (kd : Int), .bool y, .int .i64 (z1 : Int), .int .i64 (z2 : Int), .int .i64 (z3 : Int), .int .i64 (z4 : Int), .slice A n c] 26)) a (.string (str (preA a j) ++ ⟨#[32]⟩ ++ str (fldW a ((ordL kd).getD j 0)))) (.int .i64 ((j : Int) + 1)) W) := Lib.hid (fun W hW => (HLR.out _ _ _).2 ⟨j + 1, by simp, by rw [HFW.out, show (⟨#[32]⟩ : ByteArray) = str [32] from by kernel_rfl, str_app, str_app, List.append_assoc]; rfl, by omega, hW⟩)
      clear hl1 hl2 HFW HPL HPN HFLD
      obtain ⟨q0, q1, q2, q3, q4, q5, q6⟩ := HBC.out wr HB.out
      generalize (ordL kd).getD j 0 = x at *
      generalize preA a j = P at *
      rcases h7 with rfl | rfl | rfl | rfl | rfl | rfl | rfl
      · have hfl : fldW a 119 = numL z1 := by rw [HA.out]; simp [fldW]
        rw [hfl] at HQ hs2
        clear hfl
        go_wp2_with fail
        refine (HNM.out _ z1 hz1).mono ?_
        rintro e W7 ⟨rfl, hbw⟩
        have HBX := HB.out.trans (hbw.mono HB.out.size)
        clear hbw
        go_wp2_with fail
        go_roundw
        case rel => exact HQ.out _ HBX
        case measure => simp [intOf]; omega
      · have hfl : fldW a 107 = numL z2 := by rw [HA.out]; simp [fldW]
        rw [hfl] at HQ hs2
        clear hfl
        go_wp2_with fail
        refine (HNM.out _ z2 hz2).mono ?_
        rintro e W7 ⟨rfl, hbw⟩
        have HBX := HB.out.trans (hbw.mono HB.out.size)
        clear hbw
        go_wp2_with fail
        go_roundw
        case rel => exact HQ.out _ HBX
        case measure => simp [intOf]; omega
      · have hfl : fldW a 110 = numL z3 := by rw [HA.out]; simp [fldW]
        rw [hfl] at HQ hs2
        clear hfl
        go_wp2_with fail
        refine (HNM.out _ z3 hz3).mono ?_
        rintro e W7 ⟨rfl, hbw⟩
        have HBX := HB.out.trans (hbw.mono HB.out.size)
        clear hbw
        go_wp2_with fail
        go_roundw
        case rel => exact HQ.out _ HBX
        case measure => simp [intOf]; omega
      · have hfl : fldW a 97 = numL z4 := by rw [HA.out]; simp [fldW]
        rw [hfl] at HQ hs2
        clear hfl
        go_wp2_with fail
        refine (HNM.out _ z4 hz4).mono ?_
        rintro e W7 ⟨rfl, hbw⟩
        have HBX := HB.out.trans (hbw.mono HB.out.size)
        clear hbw
        go_wp2_with fail
        go_roundw
        case rel => exact HQ.out _ HBX
        case measure => simp [intOf]; omega
      · have hfl : fldW a 98 = hexL b := by rw [HA.out]; simp [fldW]
        rw [hfl] at HQ hs2
        clear hfl
        go_wp2_with fail
        refine (HHX.out _ HB.out).mono ?_
        rintro e W7 ⟨rfl, hbw⟩
        have HBX := HB.out.trans (hbw.mono HB.out.size)
        clear hbw
        go_wp2_with fail
        go_roundw
        case rel => exact HQ.out _ HBX
        case measure => simp [intOf]; omega
      · cases y
        · have hfl : fldW a 111 = rdW := by rw [HA.out]; simp [fldW]
          rw [hfl, show str rdW = ⟨#[114, 101, 97, 100]⟩ from by kernel_rfl] at HQ hs2
          have HBX := HB.out
          clear hfl
          go_wp2_with fail
          go_roundw
          case rel => exact HQ.out _ HBX
          case measure => simp [intOf]; omega
        · have hfl : fldW a 111 = wrW := by rw [HA.out]; simp [fldW]
          rw [hfl, show str wrW = ⟨#[119, 114, 105, 116, 101]⟩ from by kernel_rfl] at HQ hs2
          have HBX := HB.out
          clear hfl
          go_wp2_with fail
          go_roundw
          case rel => exact HQ.out _ HBX
          case measure => simp [intOf]; omega
      · cases y
        · have hfl : fldW a 115 = numL z1 := by rw [HA.out]; simp [fldW]
          rw [hfl] at HQ hs2
          clear hfl
          go_wp2_with fail
          refine (HNM.out _ z1 hz1).mono ?_
          rintro e W7 ⟨rfl, hbw⟩
          have HBX := HB.out.trans (hbw.mono HB.out.size)
          clear hbw q0 q1 q2 q3 q4 q5 q6
          obtain ⟨q0, q1, q2, q3, q4, q5, q6⟩ := HBC.out W7 HBX
          go_wp2_with fail
          go_roundw
          case rel => exact HQ.out _ HBX
          case measure => simp [intOf]; omega
        · have hfl : fldW a 115 = noW := by rw [HA.out]; simp [fldW]
          rw [hfl, show str noW = ⟨#[110, 111, 110, 101]⟩ from by kernel_rfl] at HQ hs2
          clear hfl
          go_wp2_with fail
          refine (HNM.out _ z1 hz1).mono ?_
          rintro e W7 ⟨rfl, hbw⟩
          have HBX := HB.out.trans (hbw.mono HB.out.size)
          clear hbw q0 q1 q2 q3 q4 q5 q6
          obtain ⟨q0, q1, q2, q3, q4, q5, q6⟩ := HBC.out W7 HBX
          go_wp2_with fail
          go_roundw
          case rel => exact HQ.out _ HBX
          case measure => simp [intOf]; omega
    · obtain rfl : j = (ordL kd).length := by omega
      rw [HPE.out]
      go_wp2_with fail
      go_ret
      exact ⟨rfl, (HB0.out.trans (HB.out.mono HB0.out.size))⟩
end
end Go.Proofs.YtcaogiaoabdkdaaDoor
