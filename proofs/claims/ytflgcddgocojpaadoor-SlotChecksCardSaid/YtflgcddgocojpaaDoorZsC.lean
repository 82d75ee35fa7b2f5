/-
  Joined: SlZ, SlAa, SlBa, SlBb, SlBc, SlBd.
-/
import Derived.Test.YtflgcddgocojpaaDoorSlV0
import Derived.Test.YtflgcddgocojpaaDoorSlV1
import Derived.Test.YtflgcddgocojpaaDoorSlV2
import Derived.Test.YtflgcddgocojpaaDoorSlV3
import Derived.Test.YtflgcddgocojpaaDoorSlV4
import Derived.Test.YtflgcddgocojpaaDoorSlV5
import Derived.Test.YtflgcddgocojpaaDoorSlV6
import Derived.Test.YtflgcddgocojpaaDoorSlVo
import Derived.Test.YtflgcddgocojpaaDoorSlX
import Derived.Test.YtflgcddgocojpaaDoorSlY
namespace Go.Proofs.YtflgcddgocojpaaDoor
set_option maxRecDepth 100000
section
open Go.RowKit Go
set_option linter.unusedVariables false

theorem step18_any (k b q c cl : Nat) (A : Option Addr) (l : List Ob) (o : O18) (Ab : Option Addr) (cb : Nat) (w : World) (hS : SZ w) (hk : k < 8) (hp : PSt w (clZ k) (clS k) b q c A cl l) (ho : Ok18 w o Ab cb) :
    Calls Tryd.prog 8 #[.slice (some ⟨b, q, none⟩) 256 c, .slice A (clS k) cl, .int .i64 (k : Int), .agg #[.int .i64 o.kind, .int .i64 o.k, .int .i64 o.n, .int .i64 o.pos, .int .u64 (o.s : Int), .slice Ab o.b.length cb]] w (StTo w (clZ k) (clS k)) := by
  by_cases h0 : o.kind = 0
  · exact step_0 k b q c cl _ cb _ o.k o.n o.pos h0 o.s A Ab l o.b w ho.ser ho.top hS hk hp ho.bs ho.nil_
  by_cases h1 : o.kind = 1
  · exact step_1 k b q c cl _ cb _ o.k o.n o.pos h1 o.s A Ab l o.b w ho.ser ho.top hS hk hp ho.bs ho.nil_
  by_cases h2 : o.kind = 2
  · exact step_2 k b q c cl _ cb _ o.k o.n o.pos h2 o.s A Ab l o.b w ho.ser ho.top hS hk hp ho.bs ho.nil_
  by_cases h3 : o.kind = 3
  · exact step_3 k b q c cl _ cb _ o.k o.n o.pos h3 o.s A Ab l o.b w ho.ser ho.top hS hk hp ho.bs ho.nil_
  by_cases h4 : o.kind = 4
  · exact step_4 k b q c cl _ cb _ o.k o.n o.pos h4 o.s A Ab l o.b w ho.ser ho.top hS hk hp ho.bs ho.nil_
  by_cases h5 : o.kind = 5
  · exact step_5 k b q c cl _ cb _ o.k o.n o.pos h5 o.s A Ab l o.b w ho.ser ho.top hS hk hp ho.bs ho.nil_
  by_cases h6 : o.kind = 6
  · exact step_6 k b q c cl _ cb _ o.k o.n o.pos h6 o.s A Ab l o.b w ho.ser ho.top hS hk hp ho.bs ho.nil_
  · exact step_o k b q c cl _ cb _ o.k o.n o.pos ⟨h0, h1, h2, h3, h4, h5, h6⟩ o.s A Ab l o.b w ho.ser ho.top hS hk hp ho.bs ho.nil_
end
section
open Go.RowKit Go
set_option linter.unusedVariables false
set_option linter.unusedSimpArgs false
set_option maxHeartbeats 4000000
set_option maxRecDepth 100000

theorem and7s (k : Int) : ∃ j : Nat, j < 8 ∧ bits .and .i64 k 7 = (j : Int) := by
  have h1 : (BitVec.ofInt 64 k).toNat &&& 7 ≤ 7 := Nat.and_le_right
  refine ⟨(BitVec.ofInt 64 k).toNat &&& 7, by omega, ?_⟩
  show IntKind.i64.wrap ((BitVec.ofInt 64 k &&& BitVec.ofInt 64 7).toNat : Int) = _
  rw [BitVec.toNat_and]
  have h2 : (BitVec.ofInt 64 7).toNat = 7 := by decide
  rw [h2]
  exact IntWalk.i64_in _ ⟨by omega, by omega⟩
theorem make256 : ∀ w : World, (Instr.makeSlice 23 (.int .i64 256) (.int .i64 256)).run Tryd.prog w = .ok (.slice (some ⟨w.heap.size, 0, none⟩) 256 256) (w.alloc (.cells (zeros 256) 5)) := make_bytes 256 (by omega)
def Stt (k g : Nat) (w : World) (e : Ending) (w' : World) : Prop := ∃ A cc l, e = .returned (.tuple #[.slice A (clS k) cc, .bool true]) ∧ PSt w' (clZ k) (clS k) g 0 256 A cc l ∧ Below w.heap.size w w'
theorem start18 (k : Nat) (w : World) (hS : SZ w) (hk : k < 8) :
    Calls Tryd.prog 7 #[.slice (some ⟨w.heap.size, 0, none⟩) 256 256, .int .i64 (k : Int)] (w.alloc (.cells (zeros 256) 5)) (Stt k w.heap.size (w.alloc (.cells (zeros 256) 5))) := by
  obtain ⟨z1, z2, z3, z4, z5, -⟩ := cl_fits k hk
  have hb0 : Below w.heap.size w (w.alloc (.cells (zeros 256) 5)) := (Below.refl _ _).alloc (Nat.le_refl _) _
  have hbs := zero_bs (w := w) 256 (by omega)
  have e0 : zb 256 = pageO (clZ k) (List.replicate (clS k) (0, [])) := (zb_page (clZ k) (clS k) (by omega)).symm
  have hm : mayP (clZ k) (clS k) (zb 256) = true := by
    rw [e0]; exact mayP_page (by omega) z2 z3 (okL_rep _ _)
  refine (objects18_any k _ 0 256 _ _ (hS.below hb0) hk hbs).mono ?_
  rintro e w' (⟨h, _⟩ | ⟨_, A, c, rfl, hv, hb⟩)
  · rw [hm] at h; cases h
  · obtain ⟨h1, h2⟩ := mayP_objs (by omega) z3 hbs.len hbs.byte hm
    exact ⟨A, c, _, rfl, ⟨h1, hv, by rw [← h2]; exact (hbs.below hb).more hb.size⟩, hb⟩
def LpS (w0 : World) (k n : Nat) (pv lv ov iv : Value) (wr : World) : Prop := ∃ j b q c A cl l, iv = .int .i64 ((j : Nat) : Int) ∧ .slice (some ⟨b, q, none⟩) 256 c = pv ∧ .slice A (clS k) cl = lv ∧ ov = .bool true ∧ PSt wr (clZ k) (clS k) b q c A cl l ∧ j ≤ n ∧ Below w0.heap.size w0 wr
end
section
open Go.RowKit Go
set_option linter.unusedVariables false
set_option linter.unusedSimpArgs false
set_option maxHeartbeats 1000000

def Bd (v : Value) (w : World) (e : Ending) (w' : World) : Prop := e = .returned v ∧ Below w.heap.size w w'
/-- these bytes are no page of that class -/
def NoPage (w : World) (n c : Nat) (A : Option Addr) (k : Int) : Prop :=
  (n ≠ 256 ∧ n ≤ 9223372036854775807) ∨ (n = 256 ∧ (k < 0 ∨ 8 ≤ k)) ∨
  ∃ (j b q : Nat) (t : List Nat), n = 256 ∧ k = (j : Int) ∧ j < 8 ∧ A = some ⟨b, q, none⟩ ∧ BS w w.heap.size A 256 c t ∧ mayP (clZ j) (clS j) t = false
theorem NoPage.len {w : World} {n c : Nat} {A : Option Addr} {k : Int} (h1 : n ≠ 256) (h2 : n ≤ 9223372036854775807) : NoPage w n c A k := .inl ⟨h1, h2⟩
theorem NoPage.cls {w : World} {n c : Nat} {A : Option Addr} {k : Int} (h1 : n = 256) (h2 : k < 0 ∨ 8 ≤ k) : NoPage w n c A k := .inr (.inl ⟨h1, h2⟩)
theorem NoPage.may {w : World} {n c : Nat} {A : Option Addr} {k : Int} (j b q : Nat) (t : List Nat) (h1 : n = 256) (h2 : k = (j : Int)) (h3 : j < 8) (h4 : A = some ⟨b, q, none⟩) (h5 : BS w w.heap.size A 256 c t) (h6 : mayP (clZ j) (clS j) t = false) : NoPage w n c A k := .inr (.inr ⟨j, b, q, t, h1, h2, h3, h4, h5, h6⟩)
theorem NoPage.below {w w' : World} {n c : Nat} {A : Option Addr} {k : Int} (h : NoPage w n c A k) (hb : Below w.heap.size w w') : NoPage w' n c A k := by
  rcases h with ⟨h1, h2⟩ | ⟨h1, h2⟩ | ⟨j, b, q, t, h1, h2, h3, h4, h5, h6⟩
  · exact .len h1 h2
  · exact .cls h1 h2
  · exact .may j b q t h1 h2 h3 h4 ((h5.below hb).more hb.size) h6
theorem check_bad {A : Option Addr} {n c : Nat} {k : Int} {w : World} (hS : SZ w) (h : NoPage w n c A k) : Calls Tryd.prog 11 #[.slice A n c, .int .i64 k] w (Bd (.int .i64 4) w) := by
  rcases h with ⟨h1, h2⟩ | ⟨h1, h2⟩ | ⟨j, b, q, t, h1, h2, h3, h4, h5, h6⟩
  · exact (check_len A n c k w h1 h2).mono fun e w' h => ⟨h.1, by rw [← h.2]; exact Below.refl _ _⟩
  · subst h1; exact (check_class A c k w hS h2).mono fun e w' h => ⟨h.1, by rw [← h.2]; exact Below.refl _ _⟩
  · subst h1 h2 h4
    refine (check_yes j b q c t w hS h3 h5).mono fun e w' h => ⟨?_, h.2⟩
    rw [h.1, h6]; rfl
theorem open_bad {A : Option Addr} {n c : Nat} {k : Int} {w : World} (hS : SZ w) (h : NoPage w n c A k) : Calls Tryd.prog 31 #[.slice A n c, .int .i64 k] w (Bd (.tuple #[.slice none 0 0, .slice none 0 0, .int .i64 4]) w) := by
  have HC := Lib.hid (check_bad hS h)
  clear hS h
  go_enter Tryd.func31, Tryd.ntmps31
  go_wp2_with fail
  refine HC.out.mono ?_
  rintro e w1 ⟨rfl, hb⟩
  have HB := Lib.hid hb
  clear hb
  go_wp2_with fail
  go_ret3
  exact ⟨rfl, HB.out⟩
theorem find_bad {A : Option Addr} {n c : Nat} {k i : Int} {w : World} (hS : SZ w) (h : NoPage w n c A k) : Calls Tryd.prog 37 #[.slice A n c, .int .i64 k, .int .i64 i] w (Bd (.tuple #[.slice none 0 0, .slice none 0 0, .int .i64 4]) w) := by
  have HC := Lib.hid (open_bad hS h)
  clear hS h
  go_enter Tryd.func37, Tryd.ntmps37
  go_wp2_with fail
  refine HC.out.mono ?_
  rintro e w1 ⟨rfl, hb⟩
  have HB := Lib.hid hb
  clear hb
  go_wp2_with fail
  go_ret3
  exact ⟨rfl, HB.out⟩
theorem take_bad {A : Option Addr} {n c : Nat} {k m : Int} {s : Int} {w : World} (hS : SZ w) (h : NoPage w n c A k) : Calls Tryd.prog 12 #[.slice A n c, .int .i64 k, .int .u64 s, .int .i64 m] w (Bd (.tuple #[.slice none 0 0, .int .i64 0, .int .i64 4]) w) := by
  have HC := Lib.hid (open_bad hS h)
  clear hS h
  go_enter Tryd.func12, Tryd.ntmps12
  go_wp2_with fail
  refine HC.out.mono ?_
  rintro e w1 ⟨rfl, hb⟩
  have HB := Lib.hid hb
  clear hb
  go_wp2_with fail
  go_ret3
  exact ⟨rfl, HB.out⟩
theorem free_bad {A : Option Addr} {n c : Nat} {k i : Int} {w : World} (hS : SZ w) (h : NoPage w n c A k) : Calls Tryd.prog 13 #[.slice A n c, .int .i64 k, .int .i64 i] w (Bd (.tuple #[.slice none 0 0, .int .i64 4]) w) := by
  have HC := Lib.hid (find_bad (i := i) hS h)
  clear hS h
  go_enter Tryd.func13, Tryd.ntmps13
  go_wp2_with fail
  refine HC.out.mono ?_
  rintro e w1 ⟨rfl, hb⟩
  have HB := Lib.hid hb
  clear hb
  go_wp2_with fail
  go_ret2
  exact ⟨rfl, HB.out⟩
theorem resize_bad {A : Option Addr} {n c : Nat} {k i m : Int} {w : World} (hS : SZ w) (h : NoPage w n c A k) : Calls Tryd.prog 14 #[.slice A n c, .int .i64 k, .int .i64 i, .int .i64 m] w (Bd (.tuple #[.slice none 0 0, .int .i64 4]) w) := by
  have HC := Lib.hid (find_bad (i := i) hS h)
  clear hS h
  go_enter Tryd.func14, Tryd.ntmps14
  go_wp2_with fail
  refine HC.out.mono ?_
  rintro e w1 ⟨rfl, hb⟩
  have HB := Lib.hid hb
  clear hb
  go_wp2_with fail
  go_ret2
  exact ⟨rfl, HB.out⟩
theorem write_bad {A B : Option Addr} {n c m d : Nat} {k i a : Int} {w : World} (hS : SZ w) (h : NoPage w n c A k) : Calls Tryd.prog 15 #[.slice A n c, .int .i64 k, .int .i64 i, .int .i64 a, .slice B m d] w (Bd (.tuple #[.slice none 0 0, .int .i64 4]) w) := by
  have HC := Lib.hid (find_bad (i := i) hS h)
  clear hS h
  go_enter Tryd.func15, Tryd.ntmps15
  go_wp2_with fail
  refine HC.out.mono ?_
  rintro e w1 ⟨rfl, hb⟩
  have HB := Lib.hid hb
  clear hb
  go_wp2_with fail
  go_ret2
  exact ⟨rfl, HB.out⟩
theorem get_bad {A : Option Addr} {n c : Nat} {k i : Int} {w : World} (hS : SZ w) (h : NoPage w n c A k) : Calls Tryd.prog 16 #[.slice A n c, .int .i64 k, .int .i64 i] w (Bd (.tuple #[.int .u64 0, .slice none 0 0, .int .i64 4]) w) := by
  have HC := Lib.hid (find_bad (i := i) hS h)
  clear hS h
  go_enter Tryd.func16, Tryd.ntmps16
  go_wp2_with fail
  refine HC.out.mono ?_
  rintro e w1 ⟨rfl, hb⟩
  have HB := Lib.hid hb
  clear hb
  go_wp2_with fail
  go_ret3
  exact ⟨rfl, HB.out⟩
theorem used_bad {A : Option Addr} {n c : Nat} {k : Int} {w : World} (hS : SZ w) (h : NoPage w n c A k) : Calls Tryd.prog 17 #[.slice A n c, .int .i64 k] w (Bd (.int .i64 0) w) := by
  have HC := Lib.hid (check_bad hS h)
  clear hS h
  go_enter Tryd.func17, Tryd.ntmps17
  go_wp2_with fail
  refine HC.out.mono ?_
  rintro e w1 ⟨rfl, hb⟩
  have HB := Lib.hid hb
  clear hb
  go_wp2_with fail
  go_ret
  exact ⟨rfl, HB.out⟩
theorem objs_bad {A : Option Addr} {n c : Nat} {k : Int} {w : World} (hS : SZ w) (h : NoPage w n c A k) : Calls Tryd.prog 7 #[.slice A n c, .int .i64 k] w (Bd (.tuple #[.slice none 0 0, .bool false]) w) := by
  rcases h with ⟨h1, h2⟩ | ⟨h1, h2⟩ | ⟨j, b, q, t, h1, h2, h3, h4, h5, h6⟩
  · have hne : ((n : Int) != 256) = true := by rw [bne_iff_ne]; omega
    clear hS h1
    go_enter Tryd.func7, Tryd.ntmps7
    go_wp2_with fail
    go_ret2
    exact ⟨rfl, Below.refl _ _⟩
  · subst h1
    have HSZ := Lib.hid (rsize_out k h2 w hS)
    clear hS h2
    go_enter Tryd.func7, Tryd.ntmps7
    go_wp2_with fail
    refine HSZ.out.mono ?_
    rintro e w1 ⟨rfl, rfl⟩
    go_wp2_with fail
    go_ret2
    exact ⟨rfl, Below.refl _ _⟩
  · subst h1 h2 h4
    refine (objects18_any j b q c t w hS h3 h5).mono ?_
    rintro e w' (⟨_, rfl, hb⟩ | ⟨h, _⟩)
    · exact ⟨rfl, hb⟩
    · rw [h6] at h; cases h
end
section
open Go.RowKit Go
set_option linter.unusedVariables false
set_option linter.unusedSimpArgs false
set_option maxHeartbeats 4000000
set_option maxRecDepth 100000

def IS (w : World) (A : Option Addr) (n : Nat) : Prop := 0 < n → ∃ b o, A = some ⟨b, o, none⟩ ∧ b < w.heap.size ∧ ∀ i, i < n → ∃ z : Int, w.cell? ⟨b, o + i, none⟩ = some (.int .i64 z)
section
open Go.ChangeShapes Go.WideShapes Go.Deep
variable {H : Type} {enc : TypeId × Value → H}
theorem is_open {w : World} {A : Option Addr} {n c : Nat} {d : DataW H} {p : List MemPlace} (h : DataW.Trod enc Tryd.prog w 0 (fun _ => true) true 35 (.slice A n c) d p) : IS w A n ∧ n ≤ 9223372036854775807 := by
  obtain ⟨fuel, hf⟩ := h
  rcases open_ints Tryd.underlying35 Tryd.underlying3 (by kernel_rfl) hf with ⟨hcs, _⟩ | ⟨x, l, cc, zs, hcs, _, hl, hm, hz, _, hcell, hwz⟩
  · simp [Value.cells] at hcs
    obtain ⟨rfl, rfl, rfl⟩ := hcs
    exact ⟨fun h => absurd h (by omega), by omega⟩
  · simp [Value.cells] at hcs
    obtain ⟨rfl, rfl, rfl⟩ := hcs
    have hz2 : zs.length = c := by simpa using hz
    refine ⟨fun hn => ?_, by unfold maxLen at hm; omega⟩
    obtain ⟨b, o, rfl, hc⟩ := ints_at hcell (by omega)
    exact ⟨b, o, rfl, block_lt_of_cell (hc 0 (by omega)), fun i hi => ⟨_, hc i (by omega)⟩⟩
end
theorem and255s (k : Int) : ∃ j : Nat, j < 256 ∧ bits .and .i64 k 255 = (j : Int) := by
  have h1 : (BitVec.ofInt 64 k).toNat &&& 255 ≤ 255 := Nat.and_le_right
  refine ⟨(BitVec.ofInt 64 k).toNat &&& 255, by omega, ?_⟩
  show IntKind.i64.wrap ((BitVec.ofInt 64 k &&& BitVec.ofInt 64 255).toNat : Int) = _
  rw [BitVec.toNat_and]
  have h2 : (BitVec.ofInt 64 255).toNat = 255 := by decide
  rw [h2]
  exact IntWalk.i64_in _ ⟨by omega, by omega⟩
theorem PgO.at1 {w : World} {B h cc m : Nat} {t : List Nat} (H : PgO w B h cc t) (hm : m < 256) : w.cell? ⟨h, m, none⟩ = some (.int .u8 ((t.getD m 0 : Nat) : Int)) ∧ w.frozen? ⟨h, m, none⟩ = false := by
  obtain ⟨cur, h1, h2, h3⟩ := H.blk
  exact ⟨(blk_cell h1 m).trans (h3 m hm), blk_free h1 m⟩
theorem PgO.set1 {w : World} {B h cc m x : Nat} {t : List Nat} (H : PgO w B h cc t) (hm : m < 256) (hx : x < 256) : PgO (w.setCell ⟨h, m, none⟩ (.int .u8 (x : Int))) B h cc (t.set m x) := by
  obtain ⟨cur, h1, h2, h3⟩ := H.blk
  have hc1 := H.c1
  refine ⟨H.hB, H.c1, H.c2, by rw [List.length_set]; exact H.len, fun i => ?_, _, blk_set h1 m _, by simpa using h2, fun i hi => ?_⟩
  · rw [List.getD_eq_getElem?_getD, List.getElem?_set]
    split
    · split
      · exact hx
      · decide
    · have := H.byte i; rwa [List.getD_eq_getElem?_getD] at this
  · have hlt : t.length = 256 := H.len
    by_cases e : m = i
    · subst e
      simp [Array.getElem?_setIfInBounds, List.getD, List.getElem?_set, h2, hlt, hm, show m < cc by omega]
    · simp only [Array.getElem?_setIfInBounds, if_neg e, List.getD, List.getElem?_set]
      simpa [List.getD] using h3 i hi
def L2R (wr : World) (n h cc : Nat) (iv : Value) (W : World) : Prop := ∃ (j : Nat) (t : List Nat), iv = .int .i64 (j : Int) ∧ PgO W wr.heap.size h cc t ∧ j ≤ n ∧ Below wr.heap.size wr W
def LpO (w0 : World) (g n : Nat) (pv lv ov iv : Value) (wr : World) : Prop := ∃ j : Nat, iv = .int .i64 (j : Int) ∧ .slice (some ⟨g, 0, none⟩) 256 256 = pv ∧ .slice none 0 0 = lv ∧ .bool false = ov ∧ BS wr wr.heap.size (some ⟨g, 0, none⟩) 256 256 (zb 256) ∧ j ≤ n ∧ Below w0.heap.size w0 wr
theorem objs_bad_w {A : Option Addr} {n c : Nat} {k : Int} (k2 a2 m2 s2 : Int) (b2 : Option Addr) (d2 e2 : Nat) {w : World} (hS : SZ w) (h : NoPage w n c A k) : Calls Tryd.prog 7 #[.slice A n c, .int .i64 k] w (Bd (.tuple #[.slice none 0 0, .bool false]) w) := objs_bad hS h
theorem take_bad_w {A : Option Addr} {n c : Nat} {k : Int} (k2 a2 m2 s2 : Int) (b2 : Option Addr) (d2 e2 : Nat) {w : World} (hS : SZ w) (h : NoPage w n c A k) : Calls Tryd.prog 12 #[.slice A n c, .int .i64 k, .int .u64 s2, .int .i64 m2] w (Bd (.tuple #[.slice none 0 0, .int .i64 0, .int .i64 4]) w) := take_bad hS h
theorem free_bad_w {A : Option Addr} {n c : Nat} {k : Int} (k2 a2 m2 s2 : Int) (b2 : Option Addr) (d2 e2 : Nat) {w : World} (hS : SZ w) (h : NoPage w n c A k) : Calls Tryd.prog 13 #[.slice A n c, .int .i64 k, .int .i64 k2] w (Bd (.tuple #[.slice none 0 0, .int .i64 4]) w) := free_bad hS h
theorem resize_bad_w {A : Option Addr} {n c : Nat} {k : Int} (k2 a2 m2 s2 : Int) (b2 : Option Addr) (d2 e2 : Nat) {w : World} (hS : SZ w) (h : NoPage w n c A k) : Calls Tryd.prog 14 #[.slice A n c, .int .i64 k, .int .i64 k2, .int .i64 m2] w (Bd (.tuple #[.slice none 0 0, .int .i64 4]) w) := resize_bad hS h
theorem write_bad_w {A : Option Addr} {n c : Nat} {k : Int} (k2 a2 m2 s2 : Int) (b2 : Option Addr) (d2 e2 : Nat) {w : World} (hS : SZ w) (h : NoPage w n c A k) : Calls Tryd.prog 15 #[.slice A n c, .int .i64 k, .int .i64 k2, .int .i64 a2, .slice b2 d2 e2] w (Bd (.tuple #[.slice none 0 0, .int .i64 4]) w) := write_bad hS h
theorem get_bad_w {A : Option Addr} {n c : Nat} {k : Int} (k2 a2 m2 s2 : Int) (b2 : Option Addr) (d2 e2 : Nat) {w : World} (hS : SZ w) (h : NoPage w n c A k) : Calls Tryd.prog 16 #[.slice A n c, .int .i64 k, .int .i64 k2] w (Bd (.tuple #[.int .u64 0, .slice none 0 0, .int .i64 4]) w) := get_bad hS h
theorem check_bad_w {A : Option Addr} {n c : Nat} {k : Int} (k2 a2 m2 s2 : Int) (b2 : Option Addr) (d2 e2 : Nat) {w : World} (hS : SZ w) (h : NoPage w n c A k) : Calls Tryd.prog 11 #[.slice A n c, .int .i64 k] w (Bd (.int .i64 4) w) := check_bad hS h
theorem used_bad_w {A : Option Addr} {n c : Nat} {k : Int} (k2 a2 m2 s2 : Int) (b2 : Option Addr) (d2 e2 : Nat) {w : World} (hS : SZ w) (h : NoPage w n c A k) : Calls Tryd.prog 17 #[.slice A n c, .int .i64 k] w (Bd (.int .i64 0) w) := used_bad hS h
end
section
open Go.RowKit Go
set_option linter.unusedVariables false
set_option linter.unusedSimpArgs false
set_option maxHeartbeats 4000000
set_option maxRecDepth 100000

theorem slotChecks_in (k : Nat) (A0 : Option Addr) (n cc0 : Nat) (l : List O18) (A1 : Option Addr) (n1 c1' : Nat) (A2 : Option Addr) (n2 c2' : Nat) (l2 : List Nat) (cut0 : Int) (w : World) (hk : k < 8) (hv : O18V w A0 n l) (hn9 : n ≤ 9223372036854775807) (hi : IS w A1 n1) (hn19 : n1 ≤ 9223372036854775807) (hb2 : BS w w.heap.size A2 n2 c2' l2) (hS : SZ w) :
    Calls Tryd.prog 4 #[.int .i64 (k : Int), .slice A0 n cc0, .slice A1 n1 c1', .slice A2 n2 c2', .int .i64 cut0] w fun e w' => e = .returned (.bool true) ∧ Below w.heap.size w w' := by
  have HM := Lib.hid make256
  have HB0 : Hid (Below w.heap.size w (w.alloc (.cells (zeros 256) 5))) := Lib.hid ((Below.refl _ _).alloc (Nat.le_refl _) _)
  have HST := Lib.hid (start18 k w hS hk)
  have HZ := Lib.hid hS
  have HIS := Lib.hid hi
  have HV2 := Lib.hid hb2
  have HV := Lib.hid hv
  have HSP := Lib.hid (fun wr (h : Below w.heap.size w wr) b q c A cl l o Ab cb (hp : PSt wr (clZ k) (clS k) b q c A cl l) (ho : Ok18 wr o Ab cb) => step18_any k b q c cl A l o Ab cb wr (hS.below h) hk hp ho)
  have HAW := Lib.hid (fun wr (h : Below w.heap.size w wr) => awake18_any wr (hS.below h))
  clear hS hv hi hb2
  go_enter Tryd.func4, Tryd.ntmps4
  have hM := HM.out
  go_wp2_with fail
  refine HST.out.mono ?_
  rintro e w1 ⟨AA, cc1, l1, rfl, hp1, hb1⟩
  have HS1 : Hid (LpS w k n (.slice (some ⟨w.heap.size, 0, none⟩) 256 256) (.slice AA (clS k) cc1) (.bool true) (.int .i64 0) w1) := Lib.hid ⟨0, _, _, _, _, _, _, rfl, rfl, rfl, rfl, hp1, by omega, HB0.out.trans (hb1.mono HB0.out.size)⟩
  clear hp1 hb1 hM HST
  go_wp2_with fail
  go_loopw [11, 12, 41] (fun pv lv iv wr => LpS w k n pv lv (.bool true) iv wr) (fun _ _ iv _ => (n - intOf iv).toNat)
  case atStart => exact HS1.out
  case round =>
    clear HS1
    obtain ⟨j, b, q, c, A, cl, l', rfl, rfl, rfl, -, hp, hj, hb⟩ := hrel
    have HB := Lib.hid hb
    have HP := Lib.hid hp
    clear hb hp
    by_cases hlt : j < n
    · obtain ⟨ba, oa, A9, c9, rfl, hba, q0, q1, q2, q3, q4, q5, hok⟩ := HV.out.at_ hlt
      have hlt1 : ba < wr.heap.size := Nat.lt_of_lt_of_le hba HB.out.size
      have p0 := (HB.out.cell (p := ⟨ba, oa + j * 6, none⟩) hba).trans q0
      have p1 := (HB.out.cell (p := ⟨ba, oa + j * 6 + 1, none⟩) hba).trans q1
      have p2 := (HB.out.cell (p := ⟨ba, oa + j * 6 + 2, none⟩) hba).trans q2
      have p3 := (HB.out.cell (p := ⟨ba, oa + j * 6 + 3, none⟩) hba).trans q3
      have p4 := (HB.out.cell (p := ⟨ba, oa + j * 6 + 4, none⟩) hba).trans q4
      have p5 := (HB.out.cell (p := ⟨ba, oa + j * 6 + 5, none⟩) hba).trans q5
      have HOK0 := Lib.hid (hok.below HB.out)
      have HBN := Lib.hid (fun (wx : World) (o : Obj) => (Below.refl wx.heap.size wx).alloc (Nat.le_refl _) o)
      clear q0 q1 q2 q3 q4 q5 hba hok
      generalize o18At l j = oo at *
      obtain ⟨kd, K, N, at_, s, bb⟩ := oo
      dsimp only at *
      have HS5 := Lib.hid (HSP.out (wr.alloc (.cells #[.int .i64 kd, .int .i64 K, .int .i64 N, .int .i64 at_, .int .u64 (s : Int), .slice A9 bb.length c9] 29)) (HB.out.trans ((HBN.out _ _).mono HB.out.size)) b q c A cl l' ⟨kd, K, N, at_, s, bb⟩ A9 c9 (HP.out.below (HBN.out _ _)) (HOK0.out.below (HBN.out _ _)))
      dsimp only at HS5
      have HB5 := Lib.hid (HB.out.trans ((HBN.out wr (.cells #[.int .i64 kd, .int .i64 K, .int .i64 N, .int .i64 at_, .int .u64 (s : Int), .slice A9 bb.length c9] 29)).mono HB.out.size))
      have HP5 := Lib.hid (HP.out.below (HBN.out wr (.cells #[.int .i64 kd, .int .i64 K, .int .i64 N, .int .i64 at_, .int .u64 (s : Int), .slice A9 bb.length c9] 29)))
      generalize bb.length = nb at *
      unfold StTo at HS5
      have HNXT : Hid (∀ w' b' q' c' A' cl' l2, PSt w' (clZ k) (clS k) b' q' c' A' cl' l2 → Below w.heap.size w w' → LpS w k n (.slice (some ⟨b', q', none⟩) 256 c') (.slice A' (clS k) cl') (.bool true) (.int .i64 ((j : Int) + 1)) w') := Lib.hid (fun w' b' q' c' A' cl' l2 h1 h2 => ⟨j + 1, b', q', c', A', cl', l2, rfl, rfl, rfl, rfl, h1, by omega, h2⟩)
      clear HBN
      by_cases h20 : j < 20
      · have hI : (j : Int) < 20 := by omega
        go_wp2_with fail
        refine HS5.out.mono ?_
        rintro e w2 ⟨hb2, b2, q2, c2, A2, cl2, l2, rfl, hp2⟩
        have HB2 := Lib.hid (HB5.out.trans (hb2.mono HB5.out.size))
        have HP2 := Lib.hid hp2
        clear hb2 hp2 p0 p1 p2 p3 p4 p5
        have HF := Lib.hid (HNXT.out w2 _ _ _ _ _ _ HP2.out HB2.out)
        go_wp2_with fail
        go_roundw
        case rel => exact HF.out
        case measure => simp [intOf]; omega
      · have hI : ¬ (j : Int) < 20 := by omega
        have HF := Lib.hid (HNXT.out _ _ _ _ _ _ _ HP5.out HB5.out)
        go_wp2_with fail
        go_roundw
        case rel => exact HF.out
        case measure => simp [intOf]; omega
    · obtain rfl : j = n := by omega
      have HPB := Lib.hid HP.out.pg
      obtain ⟨tt, htt⟩ : ∃ tt, tt = pageO (clZ k) l' := ⟨_, rfl⟩
      rw [← htt] at HPB
      clear HSP HP htt
      obtain ⟨wq, rfl⟩ : ∃ wq, wq = wr := ⟨wr, rfl⟩
      have hcap := HPB.out.cap
      have hln := HPB.out.len
      have HBYT := Lib.hid HPB.out.byte
      have HLEN := Lib.hid hln
      clear hln
      go_upto_region 12 with (at_builtin; refine wp_app_all wq rfl (.tmp 64) (.tmp 65) rfl ⟨b, q, none⟩ 256 c tt rfl rfl HPB.out (by omega) ?_; intro v5 w5 ho5 hb5; have HO5 := Lib.hid ho5; have HB5 := Lib.hid hb5; clear ho5 hb5)
      obtain ⟨h, cc5, rfl, hp5⟩ := PgO.of_own HO5.out HLEN.out HBYT.out
      obtain ⟨cc, hcc⟩ : ∃ cc, cc = cc5 := ⟨_, rfl⟩
      subst hcc
      have HS2 : Hid (L2R wq n1 h cc (.int .i64 0) w5) := Lib.hid ⟨0, tt, rfl, hp5, by omega, HB5.out⟩
      clear hp5 HO5 HBYT HLEN
      go_wp2_with fail
      go_loopw [69] (fun iv wr => L2R wq n1 h cc iv wr) (fun iv _ => (n1 - intOf iv).toNat)
      case atStart => exact HS2.out
      case round =>
        clear HS2
        obtain ⟨j, t, rfl, hp, hj, hbw⟩ := hrel
        have HPW := Lib.hid hp
        have HBR := Lib.hid hbw
        have HBW := Lib.hid (HB.out.trans (hbw.mono HB.out.size))
        clear hp hbw
        by_cases hlt : j < n1
        · obtain ⟨b1, o1, rfl, hb1, hcs⟩ := HIS.out (by omega)
          obtain ⟨z, hz⟩ := hcs j hlt
          have p0 := (HBW.out.cell (p := ⟨b1, o1 + j, none⟩) hb1).trans hz
          have hlt1 : b1 < wr.heap.size := Nat.lt_of_lt_of_le hb1 HBW.out.size
          have HNX : Hid (∀ t' W', PgO W' wq.heap.size h cc t' → Below wq.heap.size wq W' → L2R wq n1 h cc (.int .i64 ((j : Int) + 1)) W') := Lib.hid (fun t' W' h1 h2 => ⟨j + 1, t', rfl, h1, by omega, h2⟩)
          clear hcs hz
          by_cases h6 : j < 6
          · have hI6 : (j : Int) < 6 := by omega
            by_cases hv2 : j < n2
            · obtain ⟨b2, o2, rfl, hb2, hc2⟩ := HV2.out.at_ (by omega)
              have p2 := (HBW.out.cell (p := ⟨b2, o2 + j, none⟩) hb2).trans (hc2 j hv2)
              have hx := HV2.out.byte j
              have hcp2 := HV2.out.cap
              have hlt2 : b2 < wr.heap.size := Nat.lt_of_lt_of_le hb2 HBW.out.size
              obtain ⟨m, hm, hand⟩ := and255s z
              obtain ⟨s1, s2⟩ := HPW.out.at1 hm
              have HF := Lib.hid (HNX.out _ _ (HPW.out.set1 hm hx) (HBR.out.setCell (p := ⟨h, m, none⟩) HPW.out.hB _))
              have hcc1 := HPW.out.c1
              clear hc2
              generalize l2.getD j 0 = x at *
              generalize t.getD m 0 = y at *
              go_wp2_with fail
              go_roundw
              case rel => exact HF.out
              case measure => simp [intOf]; omega
            · have HF := Lib.hid (HNX.out t wr HPW.out HBR.out)
              go_wp2_with fail
              go_roundw
              case rel => exact HF.out
              case measure => simp [intOf]; omega
          · have hI6 : ¬ (j : Int) < 6 := by omega
            have HF := Lib.hid (HNX.out t wr HPW.out HBR.out)
            go_wp2_with fail
            go_roundw
            case rel => exact HF.out
            case measure => simp [intOf]; omega
        · obtain rfl : j = n1 := by omega
          by_cases hc1 : 0 < cut0
          · by_cases hc2 : cut0 < 256
            · obtain ⟨cn, rfl⟩ : ∃ cn : Nat, cut0 = (cn : Int) := ⟨cut0.toNat, by omega⟩
              obtain ⟨nP, hnP1, hnP2⟩ : ∃ nP : Nat, nP = 256 - cn ∧ nP < 256 := ⟨256 - cn, rfl, by omega⟩
              have hw1 : IntKind.i64.wrap (256 - (cn : Int)) = (nP : Int) := by rw [IntWalk.i64_in _ (by omega)]; omega
              have hnc : nP ≤ cc := by have := HPW.out.c1; omega
              have HN : Hid (NoPage wr nP cc (some ⟨h, 0, none⟩) (k : Int)) := Lib.hid (.len (by omega) (by omega))
              clear hnP1
              have HW0 := Lib.hid (Below.refl wr.heap.size wr)
              have HC0 := Lib.hid (fun k2 a2 m2 s2 b2 d2 e2 => @objs_bad_w _ _ _ _ k2 a2 m2 s2 b2 d2 e2 wr (HZ.out.below (HBW.out.trans (HW0.out.mono HBW.out.size))) (HN.out.below HW0.out))
              go_wp2_with fail
              refine (HC0.out 0 0 0 0 none 0 0).mono ?_
              rintro e x0 ⟨rfl, hbx⟩
              have HX0 := Lib.hid (HW0.out.trans (hbx.mono HW0.out.size))
              clear hbx HC0
              have HC1 := Lib.hid (fun k2 a2 m2 s2 b2 d2 e2 => @take_bad_w _ _ _ _ k2 a2 m2 s2 b2 d2 e2 x0 (HZ.out.below (HBW.out.trans (HX0.out.mono HBW.out.size))) (HN.out.below HX0.out))
              go_wp2_with fail
              refine (HC1.out 0 0 _ _ none 0 0).mono ?_
              rintro e x1 ⟨rfl, hbx⟩
              have HX1 := Lib.hid (HX0.out.trans (hbx.mono HX0.out.size))
              clear hbx HC1
              have HC2 := Lib.hid (fun k2 a2 m2 s2 b2 d2 e2 => @free_bad_w _ _ _ _ k2 a2 m2 s2 b2 d2 e2 x1 (HZ.out.below (HBW.out.trans (HX1.out.mono HBW.out.size))) (HN.out.below HX1.out))
              go_wp2_with fail
              refine (HC2.out _ 0 0 0 none 0 0).mono ?_
              rintro e x2 ⟨rfl, hbx⟩
              have HX2 := Lib.hid (HX1.out.trans (hbx.mono HX1.out.size))
              clear hbx HC2
              have HC3 := Lib.hid (fun k2 a2 m2 s2 b2 d2 e2 => @resize_bad_w _ _ _ _ k2 a2 m2 s2 b2 d2 e2 x2 (HZ.out.below (HBW.out.trans (HX2.out.mono HBW.out.size))) (HN.out.below HX2.out))
              go_wp2_with fail
              refine (HC3.out _ 0 _ 0 none 0 0).mono ?_
              rintro e x3 ⟨rfl, hbx⟩
              have HX3 := Lib.hid (HX2.out.trans (hbx.mono HX2.out.size))
              clear hbx HC3
              have HC4 := Lib.hid (fun k2 a2 m2 s2 b2 d2 e2 => @write_bad_w _ _ _ _ k2 a2 m2 s2 b2 d2 e2 x3 (HZ.out.below (HBW.out.trans (HX3.out.mono HBW.out.size))) (HN.out.below HX3.out))
              go_wp2_with fail
              refine (HC4.out _ _ 0 0 _ _ _).mono ?_
              rintro e x4 ⟨rfl, hbx⟩
              have HX4 := Lib.hid (HX3.out.trans (hbx.mono HX3.out.size))
              clear hbx HC4
              have HC5 := Lib.hid (fun k2 a2 m2 s2 b2 d2 e2 => @get_bad_w _ _ _ _ k2 a2 m2 s2 b2 d2 e2 x4 (HZ.out.below (HBW.out.trans (HX4.out.mono HBW.out.size))) (HN.out.below HX4.out))
              go_wp2_with fail
              refine (HC5.out _ 0 0 0 none 0 0).mono ?_
              rintro e x5 ⟨rfl, hbx⟩
              have HX5 := Lib.hid (HX4.out.trans (hbx.mono HX4.out.size))
              clear hbx HC5
              have HC6 := Lib.hid (fun k2 a2 m2 s2 b2 d2 e2 => @check_bad_w _ _ _ _ k2 a2 m2 s2 b2 d2 e2 x5 (HZ.out.below (HBW.out.trans (HX5.out.mono HBW.out.size))) (HN.out.below HX5.out))
              go_wp2_with fail
              refine (HC6.out 0 0 0 0 none 0 0).mono ?_
              rintro e x6 ⟨rfl, hbx⟩
              have HX6 := Lib.hid (HX5.out.trans (hbx.mono HX5.out.size))
              clear hbx HC6
              have HC7 := Lib.hid (fun k2 a2 m2 s2 b2 d2 e2 => @used_bad_w _ _ _ _ k2 a2 m2 s2 b2 d2 e2 x6 (HZ.out.below (HBW.out.trans (HX6.out.mono HBW.out.size))) (HN.out.below HX6.out))
              go_wp2_with fail
              refine (HC7.out 0 0 0 0 none 0 0).mono ?_
              rintro e x7 ⟨rfl, hbx⟩
              have HX7 := Lib.hid (HX6.out.trans (hbx.mono HX6.out.size))
              clear hbx HC7
              have HL := Lib.hid (HBW.out.trans (HX7.out.mono HBW.out.size))
              have HA := Lib.hid (HAW.out x7 HL.out)
              go_wp2_with fail
              refine HA.out.mono ?_
              rintro e w9 ⟨rfl, hb9⟩
              have HF := Lib.hid (HL.out.trans (hb9.mono HL.out.size))
              clear hb9
              go_wp2_with fail
              go_ret
              exact ⟨rfl, HF.out⟩
            · skip
              cases hm : mayP (clZ k) (clS k) t
              · have HN : Hid (NoPage wr 256 cc (some ⟨h, 0, none⟩) (k : Int)) := Lib.hid (.may k h 0 t rfl rfl hk rfl HPW.out.bs hm)
                clear hm
                have HW0 := Lib.hid (Below.refl wr.heap.size wr)
                have HC0 := Lib.hid (fun k2 a2 m2 s2 b2 d2 e2 => @objs_bad_w _ _ _ _ k2 a2 m2 s2 b2 d2 e2 wr (HZ.out.below (HBW.out.trans (HW0.out.mono HBW.out.size))) (HN.out.below HW0.out))
                go_wp2_with fail
                refine (HC0.out 0 0 0 0 none 0 0).mono ?_
                rintro e x0 ⟨rfl, hbx⟩
                have HX0 := Lib.hid (HW0.out.trans (hbx.mono HW0.out.size))
                clear hbx HC0
                have HC1 := Lib.hid (fun k2 a2 m2 s2 b2 d2 e2 => @take_bad_w _ _ _ _ k2 a2 m2 s2 b2 d2 e2 x0 (HZ.out.below (HBW.out.trans (HX0.out.mono HBW.out.size))) (HN.out.below HX0.out))
                go_wp2_with fail
                refine (HC1.out 0 0 _ _ none 0 0).mono ?_
                rintro e x1 ⟨rfl, hbx⟩
                have HX1 := Lib.hid (HX0.out.trans (hbx.mono HX0.out.size))
                clear hbx HC1
                have HC2 := Lib.hid (fun k2 a2 m2 s2 b2 d2 e2 => @free_bad_w _ _ _ _ k2 a2 m2 s2 b2 d2 e2 x1 (HZ.out.below (HBW.out.trans (HX1.out.mono HBW.out.size))) (HN.out.below HX1.out))
                go_wp2_with fail
                refine (HC2.out _ 0 0 0 none 0 0).mono ?_
                rintro e x2 ⟨rfl, hbx⟩
                have HX2 := Lib.hid (HX1.out.trans (hbx.mono HX1.out.size))
                clear hbx HC2
                have HC3 := Lib.hid (fun k2 a2 m2 s2 b2 d2 e2 => @resize_bad_w _ _ _ _ k2 a2 m2 s2 b2 d2 e2 x2 (HZ.out.below (HBW.out.trans (HX2.out.mono HBW.out.size))) (HN.out.below HX2.out))
                go_wp2_with fail
                refine (HC3.out _ 0 _ 0 none 0 0).mono ?_
                rintro e x3 ⟨rfl, hbx⟩
                have HX3 := Lib.hid (HX2.out.trans (hbx.mono HX2.out.size))
                clear hbx HC3
                have HC4 := Lib.hid (fun k2 a2 m2 s2 b2 d2 e2 => @write_bad_w _ _ _ _ k2 a2 m2 s2 b2 d2 e2 x3 (HZ.out.below (HBW.out.trans (HX3.out.mono HBW.out.size))) (HN.out.below HX3.out))
                go_wp2_with fail
                refine (HC4.out _ _ 0 0 _ _ _).mono ?_
                rintro e x4 ⟨rfl, hbx⟩
                have HX4 := Lib.hid (HX3.out.trans (hbx.mono HX3.out.size))
                clear hbx HC4
                have HC5 := Lib.hid (fun k2 a2 m2 s2 b2 d2 e2 => @get_bad_w _ _ _ _ k2 a2 m2 s2 b2 d2 e2 x4 (HZ.out.below (HBW.out.trans (HX4.out.mono HBW.out.size))) (HN.out.below HX4.out))
                go_wp2_with fail
                refine (HC5.out _ 0 0 0 none 0 0).mono ?_
                rintro e x5 ⟨rfl, hbx⟩
                have HX5 := Lib.hid (HX4.out.trans (hbx.mono HX4.out.size))
                clear hbx HC5
                have HC6 := Lib.hid (fun k2 a2 m2 s2 b2 d2 e2 => @check_bad_w _ _ _ _ k2 a2 m2 s2 b2 d2 e2 x5 (HZ.out.below (HBW.out.trans (HX5.out.mono HBW.out.size))) (HN.out.below HX5.out))
                go_wp2_with fail
                refine (HC6.out 0 0 0 0 none 0 0).mono ?_
                rintro e x6 ⟨rfl, hbx⟩
                have HX6 := Lib.hid (HX5.out.trans (hbx.mono HX5.out.size))
                clear hbx HC6
                have HC7 := Lib.hid (fun k2 a2 m2 s2 b2 d2 e2 => @used_bad_w _ _ _ _ k2 a2 m2 s2 b2 d2 e2 x6 (HZ.out.below (HBW.out.trans (HX6.out.mono HBW.out.size))) (HN.out.below HX6.out))
                go_wp2_with fail
                refine (HC7.out 0 0 0 0 none 0 0).mono ?_
                rintro e x7 ⟨rfl, hbx⟩
                have HX7 := Lib.hid (HX6.out.trans (hbx.mono HX6.out.size))
                clear hbx HC7
                have HL := Lib.hid (HBW.out.trans (HX7.out.mono HBW.out.size))
                have HA := Lib.hid (HAW.out x7 HL.out)
                go_wp2_with fail
                refine HA.out.mono ?_
                rintro e w9 ⟨rfl, hb9⟩
                have HF := Lib.hid (HL.out.trans (hb9.mono HL.out.size))
                clear hb9
                go_wp2_with fail
                go_ret
                exact ⟨rfl, HF.out⟩
              · have HOB := Lib.hid (objects18_any k h 0 cc t wr (HZ.out.below HBW.out) hk HPW.out.bs)
                unfold ObTo at HOB
                have HCK := Lib.hid (fun W2 (hb : Below wr.heap.size wr W2) => check_yes k h 0 cc t W2 (HZ.out.below (HBW.out.trans (hb.mono HBW.out.size))) hk ((HPW.out.bs.below hb).more hb.size))
                rw [hm] at HOB HCK
                unfold mayE at HCK
                clear hm
                go_wp2_with fail
                refine HOB.out.mono ?_
                rintro e x1 (⟨hx, _⟩ | ⟨hx, A5, c5, rfl, hv5, hb5⟩)
                · cases hx
                · have HK1 := Lib.hid (HCK.out x1 hb5)
                  have HX1 := Lib.hid (HBW.out.trans (hb5.mono HBW.out.size))
                  clear hx hv5 hb5
                  go_wp2_with fail
                  refine HK1.out.mono ?_
                  rintro e x2 ⟨rfl, hb6⟩
                  have HX2 := Lib.hid (HX1.out.trans (hb6.mono HX1.out.size))
                  clear hb6
                  have HA := Lib.hid (HAW.out x2 HX2.out)
                  go_wp2_with fail
                  refine HA.out.mono ?_
                  rintro e w9 ⟨rfl, hb9⟩
                  have HF := Lib.hid (HX2.out.trans (hb9.mono HX2.out.size))
                  clear hb9
                  go_wp2_with fail
                  go_ret
                  exact ⟨rfl, HF.out⟩
          · skip
            cases hm : mayP (clZ k) (clS k) t
            · have HN : Hid (NoPage wr 256 cc (some ⟨h, 0, none⟩) (k : Int)) := Lib.hid (.may k h 0 t rfl rfl hk rfl HPW.out.bs hm)
              clear hm
              have HW0 := Lib.hid (Below.refl wr.heap.size wr)
              have HC0 := Lib.hid (fun k2 a2 m2 s2 b2 d2 e2 => @objs_bad_w _ _ _ _ k2 a2 m2 s2 b2 d2 e2 wr (HZ.out.below (HBW.out.trans (HW0.out.mono HBW.out.size))) (HN.out.below HW0.out))
              go_wp2_with fail
              refine (HC0.out 0 0 0 0 none 0 0).mono ?_
              rintro e x0 ⟨rfl, hbx⟩
              have HX0 := Lib.hid (HW0.out.trans (hbx.mono HW0.out.size))
              clear hbx HC0
              have HC1 := Lib.hid (fun k2 a2 m2 s2 b2 d2 e2 => @take_bad_w _ _ _ _ k2 a2 m2 s2 b2 d2 e2 x0 (HZ.out.below (HBW.out.trans (HX0.out.mono HBW.out.size))) (HN.out.below HX0.out))
              go_wp2_with fail
              refine (HC1.out 0 0 _ _ none 0 0).mono ?_
              rintro e x1 ⟨rfl, hbx⟩
              have HX1 := Lib.hid (HX0.out.trans (hbx.mono HX0.out.size))
              clear hbx HC1
              have HC2 := Lib.hid (fun k2 a2 m2 s2 b2 d2 e2 => @free_bad_w _ _ _ _ k2 a2 m2 s2 b2 d2 e2 x1 (HZ.out.below (HBW.out.trans (HX1.out.mono HBW.out.size))) (HN.out.below HX1.out))
              go_wp2_with fail
              refine (HC2.out _ 0 0 0 none 0 0).mono ?_
              rintro e x2 ⟨rfl, hbx⟩
              have HX2 := Lib.hid (HX1.out.trans (hbx.mono HX1.out.size))
              clear hbx HC2
              have HC3 := Lib.hid (fun k2 a2 m2 s2 b2 d2 e2 => @resize_bad_w _ _ _ _ k2 a2 m2 s2 b2 d2 e2 x2 (HZ.out.below (HBW.out.trans (HX2.out.mono HBW.out.size))) (HN.out.below HX2.out))
              go_wp2_with fail
              refine (HC3.out _ 0 _ 0 none 0 0).mono ?_
              rintro e x3 ⟨rfl, hbx⟩
              have HX3 := Lib.hid (HX2.out.trans (hbx.mono HX2.out.size))
              clear hbx HC3
              have HC4 := Lib.hid (fun k2 a2 m2 s2 b2 d2 e2 => @write_bad_w _ _ _ _ k2 a2 m2 s2 b2 d2 e2 x3 (HZ.out.below (HBW.out.trans (HX3.out.mono HBW.out.size))) (HN.out.below HX3.out))
              go_wp2_with fail
              refine (HC4.out _ _ 0 0 _ _ _).mono ?_
              rintro e x4 ⟨rfl, hbx⟩
              have HX4 := Lib.hid (HX3.out.trans (hbx.mono HX3.out.size))
              clear hbx HC4
              have HC5 := Lib.hid (fun k2 a2 m2 s2 b2 d2 e2 => @get_bad_w _ _ _ _ k2 a2 m2 s2 b2 d2 e2 x4 (HZ.out.below (HBW.out.trans (HX4.out.mono HBW.out.size))) (HN.out.below HX4.out))
              go_wp2_with fail
              refine (HC5.out _ 0 0 0 none 0 0).mono ?_
              rintro e x5 ⟨rfl, hbx⟩
              have HX5 := Lib.hid (HX4.out.trans (hbx.mono HX4.out.size))
              clear hbx HC5
              have HC6 := Lib.hid (fun k2 a2 m2 s2 b2 d2 e2 => @check_bad_w _ _ _ _ k2 a2 m2 s2 b2 d2 e2 x5 (HZ.out.below (HBW.out.trans (HX5.out.mono HBW.out.size))) (HN.out.below HX5.out))
              go_wp2_with fail
              refine (HC6.out 0 0 0 0 none 0 0).mono ?_
              rintro e x6 ⟨rfl, hbx⟩
              have HX6 := Lib.hid (HX5.out.trans (hbx.mono HX5.out.size))
              clear hbx HC6
              have HC7 := Lib.hid (fun k2 a2 m2 s2 b2 d2 e2 => @used_bad_w _ _ _ _ k2 a2 m2 s2 b2 d2 e2 x6 (HZ.out.below (HBW.out.trans (HX6.out.mono HBW.out.size))) (HN.out.below HX6.out))
              go_wp2_with fail
              refine (HC7.out 0 0 0 0 none 0 0).mono ?_
              rintro e x7 ⟨rfl, hbx⟩
              have HX7 := Lib.hid (HX6.out.trans (hbx.mono HX6.out.size))
              clear hbx HC7
              have HL := Lib.hid (HBW.out.trans (HX7.out.mono HBW.out.size))
              have HA := Lib.hid (HAW.out x7 HL.out)
              go_wp2_with fail
              refine HA.out.mono ?_
              rintro e w9 ⟨rfl, hb9⟩
              have HF := Lib.hid (HL.out.trans (hb9.mono HL.out.size))
              clear hb9
              go_wp2_with fail
              go_ret
              exact ⟨rfl, HF.out⟩
            · have HOB := Lib.hid (objects18_any k h 0 cc t wr (HZ.out.below HBW.out) hk HPW.out.bs)
              unfold ObTo at HOB
              have HCK := Lib.hid (fun W2 (hb : Below wr.heap.size wr W2) => check_yes k h 0 cc t W2 (HZ.out.below (HBW.out.trans (hb.mono HBW.out.size))) hk ((HPW.out.bs.below hb).more hb.size))
              rw [hm] at HOB HCK
              unfold mayE at HCK
              clear hm
              go_wp2_with fail
              refine HOB.out.mono ?_
              rintro e x1 (⟨hx, _⟩ | ⟨hx, A5, c5, rfl, hv5, hb5⟩)
              · cases hx
              · have HK1 := Lib.hid (HCK.out x1 hb5)
                have HX1 := Lib.hid (HBW.out.trans (hb5.mono HBW.out.size))
                clear hx hv5 hb5
                go_wp2_with fail
                refine HK1.out.mono ?_
                rintro e x2 ⟨rfl, hb6⟩
                have HX2 := Lib.hid (HX1.out.trans (hb6.mono HX1.out.size))
                clear hb6
                have HA := Lib.hid (HAW.out x2 HX2.out)
                go_wp2_with fail
                refine HA.out.mono ?_
                rintro e w9 ⟨rfl, hb9⟩
                have HF := Lib.hid (HX2.out.trans (hb9.mono HX2.out.size))
                clear hb9
                go_wp2_with fail
                go_ret
                exact ⟨rfl, HF.out⟩
end
section
open Go.RowKit Go
set_option linter.unusedVariables false
set_option linter.unusedSimpArgs false
set_option maxHeartbeats 4000000
set_option maxRecDepth 100000

theorem slotChecks_out (c0 : Int) (A0 : Option Addr) (n cc0 : Nat) (l : List O18) (A1 : Option Addr) (n1 c1' : Nat) (A2 : Option Addr) (n2 c2' : Nat) (l2 : List Nat) (cut0 : Int) (w : World) (hout : c0 < 0 ∨ 8 ≤ c0) (hv : O18V w A0 n l) (hn9 : n ≤ 9223372036854775807) (hi : IS w A1 n1) (hn19 : n1 ≤ 9223372036854775807) (hb2 : BS w w.heap.size A2 n2 c2' l2) (hS : SZ w) :
    Calls Tryd.prog 4 #[.int .i64 c0, .slice A0 n cc0, .slice A1 n1 c1', .slice A2 n2 c2', .int .i64 cut0] w fun e w' => e = .returned (.bool true) ∧ Below w.heap.size w w' := by
  have HM := Lib.hid make256
  have HB0 : Hid (Below w.heap.size w (w.alloc (.cells (zeros 256) 5))) := Lib.hid ((Below.refl _ _).alloc (Nat.le_refl _) _)
  have HOB := Lib.hid (objs_bad (hS.below HB0.out) (NoPage.cls (w := w.alloc (.cells (zeros 256) 5)) (c := 256) (A := some ⟨w.heap.size, 0, none⟩) rfl hout))
  have HBS0 := Lib.hid (zero_bs (w := w) 256 (by omega))
  have HZ := Lib.hid hS
  have HV := Lib.hid hv
  have HIS := Lib.hid hi
  have HV2 := Lib.hid hb2
  have HAW := Lib.hid (fun wr (h : Below w.heap.size w wr) => awake18_any wr (hS.below h))
  have HOUT := Lib.hid hout
  clear hS hv hi hb2 hout
  go_enter Tryd.func4, Tryd.ntmps4
  have hM := HM.out
  go_wp2_with fail
  refine HOB.out.mono ?_
  rintro e w1 ⟨rfl, hb1⟩
  have HS1 : Hid (LpO w w.heap.size n (.slice (some ⟨w.heap.size, 0, none⟩) 256 256) (.slice none 0 0) (.bool false) (.int .i64 0) w1) := Lib.hid ⟨0, rfl, rfl, rfl, rfl, (HBS0.out.below hb1).more hb1.size, by omega, HB0.out.trans (hb1.mono HB0.out.size)⟩
  clear hb1 hM HOB HBS0
  go_wp2_with fail
  go_loopw [11, 12, 41] (fun pv lv iv wr => LpO w w.heap.size n pv lv (.bool false) iv wr) (fun _ _ iv _ => (n - intOf iv).toNat)
  case atStart => exact HS1.out
  case round =>
    clear HS1
    obtain ⟨j, rfl, rfl, rfl, -, hbs, hj, hb⟩ := hrel
    have HB := Lib.hid hb
    clear hb
    by_cases hlt : j < n
    · obtain ⟨ba, oa, A9, c9, rfl, hba, q0, q1, q2, q3, q4, q5, hok⟩ := HV.out.at_ hlt
      have HNXT : Hid (∀ o, LpO w w.heap.size n (.slice (some ⟨w.heap.size, 0, none⟩) 256 256) (.slice none 0 0) (.bool false) (.int .i64 ((j : Int) + 1)) (wr.alloc o)) := Lib.hid (fun o => ⟨j + 1, rfl, rfl, rfl, rfl, (hbs.below ((Below.refl _ _).alloc (Nat.le_refl _) o)).more (by simp), by omega, HB.out.trans (((Below.refl wr.heap.size wr).alloc (Nat.le_refl _) o).mono HB.out.size)⟩)
      have hlt1 : ba < wr.heap.size := Nat.lt_of_lt_of_le hba HB.out.size
      have p0 := (HB.out.cell (p := ⟨ba, oa + j * 6, none⟩) hba).trans q0
      have p1 := (HB.out.cell (p := ⟨ba, oa + j * 6 + 1, none⟩) hba).trans q1
      have p2 := (HB.out.cell (p := ⟨ba, oa + j * 6 + 2, none⟩) hba).trans q2
      have p3 := (HB.out.cell (p := ⟨ba, oa + j * 6 + 3, none⟩) hba).trans q3
      have p4 := (HB.out.cell (p := ⟨ba, oa + j * 6 + 4, none⟩) hba).trans q4
      have p5 := (HB.out.cell (p := ⟨ba, oa + j * 6 + 5, none⟩) hba).trans q5
      clear q0 q1 q2 q3 q4 q5 hba hok hbs
      generalize o18At l j = oo at *
      obtain ⟨kd, K, N, at_, s, bb⟩ := oo
      dsimp only at *
      go_wp2_with fail
      go_roundw
      case rel => exact HNXT.out _
      case measure => simp [intOf]; omega
    · obtain rfl : j = n := by omega
      have hout := HOUT.out
      have HPB := Lib.hid hbs
      obtain ⟨tt, htt⟩ : ∃ tt, tt = zb 256 := ⟨_, rfl⟩
      rw [← htt] at HPB
      obtain ⟨b, hb⟩ : ∃ b, b = w.heap.size := ⟨_, rfl⟩
      obtain ⟨q, hq⟩ : ∃ q, q = 0 := ⟨_, rfl⟩
      clear htt hbs
      obtain ⟨wq, rfl⟩ : ∃ wq, wq = wr := ⟨wr, rfl⟩
      have hcap := HPB.out.cap
      have hln := HPB.out.len
      have HBYT := Lib.hid HPB.out.byte
      have HLEN := Lib.hid hln
      clear hln
      go_upto_region 12 with (at_builtin; refine wp_app_all wq rfl (.tmp 64) (.tmp 65) rfl ⟨w.heap.size, 0, none⟩ 256 256 tt rfl rfl HPB.out (by omega) ?_; intro v5 w5 ho5 hb5; have HO5 := Lib.hid ho5; have HB5 := Lib.hid hb5; clear ho5 hb5)
      obtain ⟨h, cc5, rfl, hp5⟩ := PgO.of_own HO5.out HLEN.out HBYT.out
      obtain ⟨cc, hcc⟩ : ∃ cc, cc = cc5 := ⟨_, rfl⟩
      subst hcc
      have HS2 : Hid (L2R wq n1 h cc (.int .i64 0) w5) := Lib.hid ⟨0, tt, rfl, hp5, by omega, HB5.out⟩
      clear hp5 HO5 HBYT HLEN
      go_wp2_with fail
      go_loopw [69] (fun iv wr => L2R wq n1 h cc iv wr) (fun iv _ => (n1 - intOf iv).toNat)
      case atStart => exact HS2.out
      case round =>
        clear HS2
        obtain ⟨j, t, rfl, hp, hj, hbw⟩ := hrel
        have HPW := Lib.hid hp
        have HBR := Lib.hid hbw
        have HBW := Lib.hid (HB.out.trans (hbw.mono HB.out.size))
        clear hp hbw
        by_cases hlt : j < n1
        · obtain ⟨b1, o1, rfl, hb1, hcs⟩ := HIS.out (by omega)
          obtain ⟨z, hz⟩ := hcs j hlt
          have p0 := (HBW.out.cell (p := ⟨b1, o1 + j, none⟩) hb1).trans hz
          have hlt1 : b1 < wr.heap.size := Nat.lt_of_lt_of_le hb1 HBW.out.size
          have HNX : Hid (∀ t' W', PgO W' wq.heap.size h cc t' → Below wq.heap.size wq W' → L2R wq n1 h cc (.int .i64 ((j : Int) + 1)) W') := Lib.hid (fun t' W' h1 h2 => ⟨j + 1, t', rfl, h1, by omega, h2⟩)
          clear hcs hz
          by_cases h6 : j < 6
          · have hI6 : (j : Int) < 6 := by omega
            by_cases hv2 : j < n2
            · obtain ⟨b2, o2, rfl, hb2, hc2⟩ := HV2.out.at_ (by omega)
              have p2 := (HBW.out.cell (p := ⟨b2, o2 + j, none⟩) hb2).trans (hc2 j hv2)
              have hx := HV2.out.byte j
              have hcp2 := HV2.out.cap
              have hlt2 : b2 < wr.heap.size := Nat.lt_of_lt_of_le hb2 HBW.out.size
              obtain ⟨m, hm, hand⟩ := and255s z
              obtain ⟨s1, s2⟩ := HPW.out.at1 hm
              have HF := Lib.hid (HNX.out _ _ (HPW.out.set1 hm hx) (HBR.out.setCell (p := ⟨h, m, none⟩) HPW.out.hB _))
              have hcc1 := HPW.out.c1
              clear hc2
              generalize l2.getD j 0 = x at *
              generalize t.getD m 0 = y at *
              go_wp2_with fail
              go_roundw
              case rel => exact HF.out
              case measure => simp [intOf]; omega
            · have HF := Lib.hid (HNX.out t wr HPW.out HBR.out)
              go_wp2_with fail
              go_roundw
              case rel => exact HF.out
              case measure => simp [intOf]; omega
          · have hI6 : ¬ (j : Int) < 6 := by omega
            have HF := Lib.hid (HNX.out t wr HPW.out HBR.out)
            go_wp2_with fail
            go_roundw
            case rel => exact HF.out
            case measure => simp [intOf]; omega
        · obtain rfl : j = n1 := by omega
          by_cases hc1 : 0 < cut0
          · by_cases hc2 : cut0 < 256
            · obtain ⟨cn, rfl⟩ : ∃ cn : Nat, cut0 = (cn : Int) := ⟨cut0.toNat, by omega⟩
              obtain ⟨nP, hnP1, hnP2⟩ : ∃ nP : Nat, nP = 256 - cn ∧ nP < 256 := ⟨256 - cn, rfl, by omega⟩
              have hw1 : IntKind.i64.wrap (256 - (cn : Int)) = (nP : Int) := by rw [IntWalk.i64_in _ (by omega)]; omega
              have hnc : nP ≤ cc := by have := HPW.out.c1; omega
              have HN : Hid (NoPage wr nP cc (some ⟨h, 0, none⟩) c0) := Lib.hid (.len (by omega) (by omega))
              clear hnP1
              have HW0 := Lib.hid (Below.refl wr.heap.size wr)
              have HC0 := Lib.hid (fun k2 a2 m2 s2 b2 d2 e2 => @objs_bad_w _ _ _ _ k2 a2 m2 s2 b2 d2 e2 wr (HZ.out.below (HBW.out.trans (HW0.out.mono HBW.out.size))) (HN.out.below HW0.out))
              go_wp2_with fail
              refine (HC0.out 0 0 0 0 none 0 0).mono ?_
              rintro e x0 ⟨rfl, hbx⟩
              have HX0 := Lib.hid (HW0.out.trans (hbx.mono HW0.out.size))
              clear hbx HC0
              have HC1 := Lib.hid (fun k2 a2 m2 s2 b2 d2 e2 => @take_bad_w _ _ _ _ k2 a2 m2 s2 b2 d2 e2 x0 (HZ.out.below (HBW.out.trans (HX0.out.mono HBW.out.size))) (HN.out.below HX0.out))
              go_wp2_with fail
              refine (HC1.out 0 0 _ _ none 0 0).mono ?_
              rintro e x1 ⟨rfl, hbx⟩
              have HX1 := Lib.hid (HX0.out.trans (hbx.mono HX0.out.size))
              clear hbx HC1
              have HC2 := Lib.hid (fun k2 a2 m2 s2 b2 d2 e2 => @free_bad_w _ _ _ _ k2 a2 m2 s2 b2 d2 e2 x1 (HZ.out.below (HBW.out.trans (HX1.out.mono HBW.out.size))) (HN.out.below HX1.out))
              go_wp2_with fail
              refine (HC2.out _ 0 0 0 none 0 0).mono ?_
              rintro e x2 ⟨rfl, hbx⟩
              have HX2 := Lib.hid (HX1.out.trans (hbx.mono HX1.out.size))
              clear hbx HC2
              have HC3 := Lib.hid (fun k2 a2 m2 s2 b2 d2 e2 => @resize_bad_w _ _ _ _ k2 a2 m2 s2 b2 d2 e2 x2 (HZ.out.below (HBW.out.trans (HX2.out.mono HBW.out.size))) (HN.out.below HX2.out))
              go_wp2_with fail
              refine (HC3.out _ 0 _ 0 none 0 0).mono ?_
              rintro e x3 ⟨rfl, hbx⟩
              have HX3 := Lib.hid (HX2.out.trans (hbx.mono HX2.out.size))
              clear hbx HC3
              have HC4 := Lib.hid (fun k2 a2 m2 s2 b2 d2 e2 => @write_bad_w _ _ _ _ k2 a2 m2 s2 b2 d2 e2 x3 (HZ.out.below (HBW.out.trans (HX3.out.mono HBW.out.size))) (HN.out.below HX3.out))
              go_wp2_with fail
              refine (HC4.out _ _ 0 0 _ _ _).mono ?_
              rintro e x4 ⟨rfl, hbx⟩
              have HX4 := Lib.hid (HX3.out.trans (hbx.mono HX3.out.size))
              clear hbx HC4
              have HC5 := Lib.hid (fun k2 a2 m2 s2 b2 d2 e2 => @get_bad_w _ _ _ _ k2 a2 m2 s2 b2 d2 e2 x4 (HZ.out.below (HBW.out.trans (HX4.out.mono HBW.out.size))) (HN.out.below HX4.out))
              go_wp2_with fail
              refine (HC5.out _ 0 0 0 none 0 0).mono ?_
              rintro e x5 ⟨rfl, hbx⟩
              have HX5 := Lib.hid (HX4.out.trans (hbx.mono HX4.out.size))
              clear hbx HC5
              have HC6 := Lib.hid (fun k2 a2 m2 s2 b2 d2 e2 => @check_bad_w _ _ _ _ k2 a2 m2 s2 b2 d2 e2 x5 (HZ.out.below (HBW.out.trans (HX5.out.mono HBW.out.size))) (HN.out.below HX5.out))
              go_wp2_with fail
              refine (HC6.out 0 0 0 0 none 0 0).mono ?_
              rintro e x6 ⟨rfl, hbx⟩
              have HX6 := Lib.hid (HX5.out.trans (hbx.mono HX5.out.size))
              clear hbx HC6
              have HC7 := Lib.hid (fun k2 a2 m2 s2 b2 d2 e2 => @used_bad_w _ _ _ _ k2 a2 m2 s2 b2 d2 e2 x6 (HZ.out.below (HBW.out.trans (HX6.out.mono HBW.out.size))) (HN.out.below HX6.out))
              go_wp2_with fail
              refine (HC7.out 0 0 0 0 none 0 0).mono ?_
              rintro e x7 ⟨rfl, hbx⟩
              have HX7 := Lib.hid (HX6.out.trans (hbx.mono HX6.out.size))
              clear hbx HC7
              have HL := Lib.hid (HBW.out.trans (HX7.out.mono HBW.out.size))
              have HA := Lib.hid (HAW.out x7 HL.out)
              go_wp2_with fail
              refine HA.out.mono ?_
              rintro e w9 ⟨rfl, hb9⟩
              have HF := Lib.hid (HL.out.trans (hb9.mono HL.out.size))
              clear hb9
              go_wp2_with fail
              go_ret
              exact ⟨rfl, HF.out⟩
            · skip
              have HN : Hid (NoPage wr 256 cc (some ⟨h, 0, none⟩) c0) := Lib.hid (.cls rfl hout)
              have HW0 := Lib.hid (Below.refl wr.heap.size wr)
              have HC0 := Lib.hid (fun k2 a2 m2 s2 b2 d2 e2 => @objs_bad_w _ _ _ _ k2 a2 m2 s2 b2 d2 e2 wr (HZ.out.below (HBW.out.trans (HW0.out.mono HBW.out.size))) (HN.out.below HW0.out))
              go_wp2_with fail
              refine (HC0.out 0 0 0 0 none 0 0).mono ?_
              rintro e x0 ⟨rfl, hbx⟩
              have HX0 := Lib.hid (HW0.out.trans (hbx.mono HW0.out.size))
              clear hbx HC0
              have HC1 := Lib.hid (fun k2 a2 m2 s2 b2 d2 e2 => @take_bad_w _ _ _ _ k2 a2 m2 s2 b2 d2 e2 x0 (HZ.out.below (HBW.out.trans (HX0.out.mono HBW.out.size))) (HN.out.below HX0.out))
              go_wp2_with fail
              refine (HC1.out 0 0 _ _ none 0 0).mono ?_
              rintro e x1 ⟨rfl, hbx⟩
              have HX1 := Lib.hid (HX0.out.trans (hbx.mono HX0.out.size))
              clear hbx HC1
              have HC2 := Lib.hid (fun k2 a2 m2 s2 b2 d2 e2 => @free_bad_w _ _ _ _ k2 a2 m2 s2 b2 d2 e2 x1 (HZ.out.below (HBW.out.trans (HX1.out.mono HBW.out.size))) (HN.out.below HX1.out))
              go_wp2_with fail
              refine (HC2.out _ 0 0 0 none 0 0).mono ?_
              rintro e x2 ⟨rfl, hbx⟩
              have HX2 := Lib.hid (HX1.out.trans (hbx.mono HX1.out.size))
              clear hbx HC2
              have HC3 := Lib.hid (fun k2 a2 m2 s2 b2 d2 e2 => @resize_bad_w _ _ _ _ k2 a2 m2 s2 b2 d2 e2 x2 (HZ.out.below (HBW.out.trans (HX2.out.mono HBW.out.size))) (HN.out.below HX2.out))
              go_wp2_with fail
              refine (HC3.out _ 0 _ 0 none 0 0).mono ?_
              rintro e x3 ⟨rfl, hbx⟩
              have HX3 := Lib.hid (HX2.out.trans (hbx.mono HX2.out.size))
              clear hbx HC3
              have HC4 := Lib.hid (fun k2 a2 m2 s2 b2 d2 e2 => @write_bad_w _ _ _ _ k2 a2 m2 s2 b2 d2 e2 x3 (HZ.out.below (HBW.out.trans (HX3.out.mono HBW.out.size))) (HN.out.below HX3.out))
              go_wp2_with fail
              refine (HC4.out _ _ 0 0 _ _ _).mono ?_
              rintro e x4 ⟨rfl, hbx⟩
              have HX4 := Lib.hid (HX3.out.trans (hbx.mono HX3.out.size))
              clear hbx HC4
              have HC5 := Lib.hid (fun k2 a2 m2 s2 b2 d2 e2 => @get_bad_w _ _ _ _ k2 a2 m2 s2 b2 d2 e2 x4 (HZ.out.below (HBW.out.trans (HX4.out.mono HBW.out.size))) (HN.out.below HX4.out))
              go_wp2_with fail
              refine (HC5.out _ 0 0 0 none 0 0).mono ?_
              rintro e x5 ⟨rfl, hbx⟩
              have HX5 := Lib.hid (HX4.out.trans (hbx.mono HX4.out.size))
              clear hbx HC5
              have HC6 := Lib.hid (fun k2 a2 m2 s2 b2 d2 e2 => @check_bad_w _ _ _ _ k2 a2 m2 s2 b2 d2 e2 x5 (HZ.out.below (HBW.out.trans (HX5.out.mono HBW.out.size))) (HN.out.below HX5.out))
              go_wp2_with fail
              refine (HC6.out 0 0 0 0 none 0 0).mono ?_
              rintro e x6 ⟨rfl, hbx⟩
              have HX6 := Lib.hid (HX5.out.trans (hbx.mono HX5.out.size))
              clear hbx HC6
              have HC7 := Lib.hid (fun k2 a2 m2 s2 b2 d2 e2 => @used_bad_w _ _ _ _ k2 a2 m2 s2 b2 d2 e2 x6 (HZ.out.below (HBW.out.trans (HX6.out.mono HBW.out.size))) (HN.out.below HX6.out))
              go_wp2_with fail
              refine (HC7.out 0 0 0 0 none 0 0).mono ?_
              rintro e x7 ⟨rfl, hbx⟩
              have HX7 := Lib.hid (HX6.out.trans (hbx.mono HX6.out.size))
              clear hbx HC7
              have HL := Lib.hid (HBW.out.trans (HX7.out.mono HBW.out.size))
              have HA := Lib.hid (HAW.out x7 HL.out)
              go_wp2_with fail
              refine HA.out.mono ?_
              rintro e w9 ⟨rfl, hb9⟩
              have HF := Lib.hid (HL.out.trans (hb9.mono HL.out.size))
              clear hb9
              go_wp2_with fail
              go_ret
              exact ⟨rfl, HF.out⟩
          · skip
            have HN : Hid (NoPage wr 256 cc (some ⟨h, 0, none⟩) c0) := Lib.hid (.cls rfl hout)
            have HW0 := Lib.hid (Below.refl wr.heap.size wr)
            have HC0 := Lib.hid (fun k2 a2 m2 s2 b2 d2 e2 => @objs_bad_w _ _ _ _ k2 a2 m2 s2 b2 d2 e2 wr (HZ.out.below (HBW.out.trans (HW0.out.mono HBW.out.size))) (HN.out.below HW0.out))
            go_wp2_with fail
            refine (HC0.out 0 0 0 0 none 0 0).mono ?_
            rintro e x0 ⟨rfl, hbx⟩
            have HX0 := Lib.hid (HW0.out.trans (hbx.mono HW0.out.size))
            clear hbx HC0
            have HC1 := Lib.hid (fun k2 a2 m2 s2 b2 d2 e2 => @take_bad_w _ _ _ _ k2 a2 m2 s2 b2 d2 e2 x0 (HZ.out.below (HBW.out.trans (HX0.out.mono HBW.out.size))) (HN.out.below HX0.out))
            go_wp2_with fail
            refine (HC1.out 0 0 _ _ none 0 0).mono ?_
            rintro e x1 ⟨rfl, hbx⟩
            have HX1 := Lib.hid (HX0.out.trans (hbx.mono HX0.out.size))
            clear hbx HC1
            have HC2 := Lib.hid (fun k2 a2 m2 s2 b2 d2 e2 => @free_bad_w _ _ _ _ k2 a2 m2 s2 b2 d2 e2 x1 (HZ.out.below (HBW.out.trans (HX1.out.mono HBW.out.size))) (HN.out.below HX1.out))
            go_wp2_with fail
            refine (HC2.out _ 0 0 0 none 0 0).mono ?_
            rintro e x2 ⟨rfl, hbx⟩
            have HX2 := Lib.hid (HX1.out.trans (hbx.mono HX1.out.size))
            clear hbx HC2
            have HC3 := Lib.hid (fun k2 a2 m2 s2 b2 d2 e2 => @resize_bad_w _ _ _ _ k2 a2 m2 s2 b2 d2 e2 x2 (HZ.out.below (HBW.out.trans (HX2.out.mono HBW.out.size))) (HN.out.below HX2.out))
            go_wp2_with fail
            refine (HC3.out _ 0 _ 0 none 0 0).mono ?_
            rintro e x3 ⟨rfl, hbx⟩
            have HX3 := Lib.hid (HX2.out.trans (hbx.mono HX2.out.size))
            clear hbx HC3
            have HC4 := Lib.hid (fun k2 a2 m2 s2 b2 d2 e2 => @write_bad_w _ _ _ _ k2 a2 m2 s2 b2 d2 e2 x3 (HZ.out.below (HBW.out.trans (HX3.out.mono HBW.out.size))) (HN.out.below HX3.out))
            go_wp2_with fail
            refine (HC4.out _ _ 0 0 _ _ _).mono ?_
            rintro e x4 ⟨rfl, hbx⟩
            have HX4 := Lib.hid (HX3.out.trans (hbx.mono HX3.out.size))
            clear hbx HC4
            have HC5 := Lib.hid (fun k2 a2 m2 s2 b2 d2 e2 => @get_bad_w _ _ _ _ k2 a2 m2 s2 b2 d2 e2 x4 (HZ.out.below (HBW.out.trans (HX4.out.mono HBW.out.size))) (HN.out.below HX4.out))
            go_wp2_with fail
            refine (HC5.out _ 0 0 0 none 0 0).mono ?_
            rintro e x5 ⟨rfl, hbx⟩
            have HX5 := Lib.hid (HX4.out.trans (hbx.mono HX4.out.size))
            clear hbx HC5
            have HC6 := Lib.hid (fun k2 a2 m2 s2 b2 d2 e2 => @check_bad_w _ _ _ _ k2 a2 m2 s2 b2 d2 e2 x5 (HZ.out.below (HBW.out.trans (HX5.out.mono HBW.out.size))) (HN.out.below HX5.out))
            go_wp2_with fail
            refine (HC6.out 0 0 0 0 none 0 0).mono ?_
            rintro e x6 ⟨rfl, hbx⟩
            have HX6 := Lib.hid (HX5.out.trans (hbx.mono HX5.out.size))
            clear hbx HC6
            have HC7 := Lib.hid (fun k2 a2 m2 s2 b2 d2 e2 => @used_bad_w _ _ _ _ k2 a2 m2 s2 b2 d2 e2 x6 (HZ.out.below (HBW.out.trans (HX6.out.mono HBW.out.size))) (HN.out.below HX6.out))
            go_wp2_with fail
            refine (HC7.out 0 0 0 0 none 0 0).mono ?_
            rintro e x7 ⟨rfl, hbx⟩
            have HX7 := Lib.hid (HX6.out.trans (hbx.mono HX6.out.size))
            clear hbx HC7
            have HL := Lib.hid (HBW.out.trans (HX7.out.mono HBW.out.size))
            have HA := Lib.hid (HAW.out x7 HL.out)
            go_wp2_with fail
            refine HA.out.mono ?_
            rintro e w9 ⟨rfl, hb9⟩
            have HF := Lib.hid (HL.out.trans (hb9.mono HL.out.size))
            clear hb9
            go_wp2_with fail
            go_ret
            exact ⟨rfl, HF.out⟩
end
end Go.Proofs.YtflgcddgocojpaaDoor
