/-
  Joined: LrA, LrB, LrC, LrD, LrE.
-/
import Derived.Test.YtcaogiaoabdkdaaDoorZLqO
import Derived.Test.YtcaogiaoabdkdaaDoorZLnQ
import Derived.Shelf.Strings.Builder1
import Derived.Shelf.Strconv.Itoa3
import Derived.Lib.AppendIntMem
import Derived.Test.YtcaogiaoabdkdaaDoorZLqJ
import Derived.Test.YtcaogiaoabdkdaaDoorZScJ
import Derived.Test.YtcaogiaoabdkdaaDoorZScF
namespace Go.Proofs.YtcaogiaoabdkdaaDoor
set_option maxRecDepth 100000
section
open Go.RowKit Go Go.Shelf
set_option linter.unusedVariables false
set_option linter.unusedSimpArgs false
set_option maxRecDepth 1000000
set_option maxHeartbeats 1000000
def rhoB : Ren := ⟨fun n => if n = 166 then 24 else if n = 167 then 76 else if n = 169 then 25 else if n = 240 then 41 else if n = 276 then 57 else 0, fun n => if n = 3 then 3 else if n = 4 then 4 else if n = 5 then 5 else if n = 9 then 9 else if n = 20 then 20 else if n = 37 then 24 else if n = 70 then 53 else if n = 72 then 55 else if n = 75 then 57 else if n = 80 then 60 else if n = 127 then 79 else if n = 164 then 101 else 0, fun x => x⟩
theorem laysB166 : Lays.n166 Tryd.prog rhoB where
  mixed := by kernel_rfl
  f166 := by kernel_rfl
  f240 := by kernel_rfl
  f276 := by kernel_rfl
  t0 := by kernel_rfl
  a0 := fun _ => by kernel_rfl
  z0 := fun _ => by kernel_rfl
  v0 := fun _ => by kernel_rfl
  t3 := by kernel_rfl
  a3 := fun _ => by kernel_rfl
  z3 := fun _ => by kernel_rfl
  v3 := fun _ => by kernel_rfl
  t4 := by kernel_rfl
  a4 := fun _ => by kernel_rfl
  z4 := fun _ => by kernel_rfl
  v4 := fun _ => by kernel_rfl
  t9 := by kernel_rfl
  a9 := fun _ => by kernel_rfl
  z9 := fun _ => by kernel_rfl
  v9 := fun _ => by kernel_rfl
  t20 := by kernel_rfl
  a20 := fun _ => by kernel_rfl
  z20 := fun _ => by kernel_rfl
  v20 := fun _ => by kernel_rfl
  t37 := by kernel_rfl
  a37 := fun _ => by kernel_rfl
  z37 := fun _ => by kernel_rfl
  v37 := fun _ => by kernel_rfl
  t70 := by kernel_rfl
  a70 := fun _ => by kernel_rfl
  z70 := fun _ => by kernel_rfl
  v70 := fun _ => by kernel_rfl
  t72 := by kernel_rfl
  a72 := fun _ => by kernel_rfl
  z72 := fun _ => by kernel_rfl
  v72 := fun _ => by kernel_rfl
  t75 := by kernel_rfl
  a75 := fun _ => by kernel_rfl
  z75 := fun _ => by kernel_rfl
  v75 := fun _ => by kernel_rfl
  t164 := by kernel_rfl
  a164 := fun _ => by kernel_rfl
  z164 := fun _ => by kernel_rfl
  v164 := fun _ => by kernel_rfl
theorem laysB167 : Lays.n167 Tryd.prog rhoB where
  mixed := by kernel_rfl
  f167 := by kernel_rfl
  f240 := by kernel_rfl
  f276 := by kernel_rfl
  t0 := by kernel_rfl
  a0 := fun _ => by kernel_rfl
  z0 := fun _ => by kernel_rfl
  v0 := fun _ => by kernel_rfl
  t4 := by kernel_rfl
  a4 := fun _ => by kernel_rfl
  z4 := fun _ => by kernel_rfl
  v4 := fun _ => by kernel_rfl
  t5 := by kernel_rfl
  a5 := fun _ => by kernel_rfl
  z5 := fun _ => by kernel_rfl
  v5 := fun _ => by kernel_rfl
  t9 := by kernel_rfl
  a9 := fun _ => by kernel_rfl
  z9 := fun _ => by kernel_rfl
  v9 := fun _ => by kernel_rfl
  t20 := by kernel_rfl
  a20 := fun _ => by kernel_rfl
  z20 := fun _ => by kernel_rfl
  v20 := fun _ => by kernel_rfl
  t37 := by kernel_rfl
  a37 := fun _ => by kernel_rfl
  z37 := fun _ => by kernel_rfl
  v37 := fun _ => by kernel_rfl
  t70 := by kernel_rfl
  a70 := fun _ => by kernel_rfl
  z70 := fun _ => by kernel_rfl
  v70 := fun _ => by kernel_rfl
  t72 := by kernel_rfl
  a72 := fun _ => by kernel_rfl
  z72 := fun _ => by kernel_rfl
  v72 := fun _ => by kernel_rfl
  t75 := by kernel_rfl
  a75 := fun _ => by kernel_rfl
  z75 := fun _ => by kernel_rfl
  v75 := fun _ => by kernel_rfl
  t164 := by kernel_rfl
  a164 := fun _ => by kernel_rfl
  z164 := fun _ => by kernel_rfl
  v164 := fun _ => by kernel_rfl
theorem laysB169 : Lays.n169 Tryd.prog rhoB where
  mixed := by kernel_rfl
  f169 := by kernel_rfl
  t0 := by kernel_rfl
  a0 := fun _ => by kernel_rfl
  z0 := fun _ => by kernel_rfl
  v0 := fun _ => by kernel_rfl
  t3 := by kernel_rfl
  a3 := fun _ => by kernel_rfl
  z3 := fun _ => by kernel_rfl
  v3 := fun _ => by kernel_rfl
  t9 := by kernel_rfl
  a9 := fun _ => by kernel_rfl
  z9 := fun _ => by kernel_rfl
  v9 := fun _ => by kernel_rfl
  t37 := by kernel_rfl
  a37 := fun _ => by kernel_rfl
  z37 := fun _ => by kernel_rfl
  v37 := fun _ => by kernel_rfl
  t70 := by kernel_rfl
  a70 := fun _ => by kernel_rfl
  z70 := fun _ => by kernel_rfl
  v70 := fun _ => by kernel_rfl
  t72 := by kernel_rfl
  a72 := fun _ => by kernel_rfl
  z72 := fun _ => by kernel_rfl
  v72 := fun _ => by kernel_rfl
  t127 := by kernel_rfl
  a127 := fun _ => by kernel_rfl
  z127 := fun _ => by kernel_rfl
  v127 := fun _ => by kernel_rfl
theorem extraB : Builder.Extra Tryd.prog rhoB where
  sizeBuilder := by kernel_rfl
  liesBuilder := by kernel_rfl
  t5 := by kernel_rfl
  a5 := fun _ => by kernel_rfl
  z5 := fun _ => by kernel_rfl
  v5 := fun _ => by kernel_rfl
  infoByte := by kernel_rfl
  cellsByte := by kernel_rfl
  sizeByte := by kernel_rfl
  neB5 := by decide
def bU (l : List Nat) : List UInt8 := l.map UInt8.ofNat
theorem bU_snoc (l : List Nat) {c : Nat} (hc : c < 256) : Lib.byteCells (bU l) ++ [Value.int .u8 (c : Int)] = Lib.byteCells (bU (l ++ [c])) := by
  unfold bU
  rw [List.map_append, Lib.byteCells_append]
  simp only [Lib.byteCells, List.map_cons, List.map_nil]
  rw [show (UInt8.ofNat c).toNat = c from by simp [UInt8.toNat_ofNat']; omega]
theorem bU_len (l : List Nat) : (Lib.byteCells (bU l)).length = l.length := by rw [Lib.byteCells_length]; unfold bU; simp
theorem bU_str (l : List Nat) : (⟨(bU l).toArray⟩ : ByteArray) = str l := by
  apply ByteArray.ext
  apply Array.ext'
  rw [str_data]; rfl
theorem bU_app (l m : List Nat) : Lib.byteCells (bU l) ++ Lib.strCells (str m) = Lib.byteCells (bU (l ++ m)) := by
  rw [Lib.strCells_eq, str_data]
  unfold bU
  rw [List.map_append, Lib.byteCells_append]
/-- a builder that holds l -/
def Bld (B b : Nat) (l : List Nat) (w : World) : Prop := Lib.IsBuilder 55 5 B b (Lib.byteCells (bU l)) w
theorem Bld.new (w : World) : Bld w.heap.size w.heap.size [] (w.alloc (.cells #[.pointer none, .slice none 0 0] 55)) := Lib.fresh_isBuilder _ _ w
theorem wbyte_any {B b : Nat} {l : List Nat} {c : Nat} (hc : c < 256) {w : World} (h : Bld B b l w) (hl : l.length < 100000000) (hB : B ≤ w.heap.size) :
    Calls Tryd.prog 76 #[.pointer (some ⟨b, 0, none⟩), .int .u8 (c : Int)] w fun e w' => e = .returned .nilIface ∧ Bld B b (l ++ [c]) w' ∧ Below B w w' := by
  refine (Any.Builder_WriteByte laysB167 extraB B b _ (c : Int) w h (by rw [bU_len]; omega) hB).mono ?_
  rintro e w' ⟨rfl, h1, h2⟩
  refine ⟨rfl, .inr ?_, h2⟩
  rw [bU_snoc l hc] at h1
  exact h1
theorem wstr_any {B b : Nat} {l m : List Nat} {w : World} (h : Bld B b l w) (hl : l.length + m.length < 100000000) (hB : B ≤ w.heap.size) :
    Calls Tryd.prog 24 #[.pointer (some ⟨b, 0, none⟩), .string (str m)] w fun e w' => (∃ x, e = .returned x) ∧ Bld B b (l ++ m) w' ∧ Below B w w' := by
  refine (Any.Builder_WriteString laysB166 extraB B b _ (str m) w h (by rw [bU_len, str_size]; omega) hB).mono ?_
  rintro e w' ⟨rfl, h1, h2⟩
  refine ⟨⟨_, rfl⟩, .inr ?_, h2⟩
  rw [bU_app] at h1
  exact h1
theorem bstr_any {B b : Nat} {l : List Nat} {w : World} (h : Bld B b l w) (hB : B ≤ w.heap.size) :
    Calls Tryd.prog 25 #[.pointer (some ⟨b, 0, none⟩)] w fun e w' => e = .returned (.string (str l)) ∧ Below B w w' := by
  refine (Any.Builder_String_any laysB169 extraB B b (bU l) w h hB).mono ?_
  rintro e w' ⟨rfl, h2⟩
  exact ⟨by rw [bU_str], h2⟩
theorem Bld.lt {B b : Nat} {l : List Nat} {w : World} (h : Bld B b l w) : b < w.heap.size := by
  rcases h with h | h
  · exact h.lt
  · exact h.lt
def dgS : ByteArray := ⟨#[48, 49, 50, 51, 52, 53, 54, 55, 56, 57, 97, 98, 99, 100, 101, 102]⟩
theorem dg16 : ∀ (e : Nat) (h : e < dgS.size), (dgS[e]'h).toNat = sgL e := by
  intro e h
  have h16 : e < 16 := h
  match e, h16 with
  | 0, _ => rfl
  | 1, _ => rfl
  | 2, _ => rfl
  | 3, _ => rfl
  | 4, _ => rfl
  | 5, _ => rfl
  | 6, _ => rfl
  | 7, _ => rfl
  | 8, _ => rfl
  | 9, _ => rfl
  | 10, _ => rfl
  | 11, _ => rfl
  | 12, _ => rfl
  | 13, _ => rfl
  | 14, _ => rfl
  | 15, _ => rfl
  | e + 16, h => exact absurd h (by omega)
def HxR (w : World) (x : List Nat) (iv : Value) (wr : World) : Prop := ∃ k : Nat, iv = .int .i64 (k : Int) ∧ k ≤ x.length ∧ Bld w.heap.size w.heap.size (hexP (x.take k)) wr ∧ Below w.heap.size w wr
theorem hex_any (A : Option Addr) (n c : Nat) (x : List Nat) (w : World) (hs : BS w w.heap.size A n c x) (hn : n ≤ 1024) :
    Calls Tryd.prog 54 #[.slice A n c] w (GivesS w (hexL x)) := by
  have HS := Lib.hid hs
  have HB := Lib.hid hs.byte
  have hl : x.length = n := hs.len
  have HL := Lib.hid hl
  by_cases h0 : n = 0
  · subst h0
    obtain rfl : x = [] := List.length_eq_zero_iff.1 hl
    clear hs hl
    go_enter Tryd.func54, Tryd.ntmps54
    go_wp2
    go_ret
    exact ⟨rfl, Below.refl _ _⟩
  · have hnI : ¬ (n : Int) = 0 := by omega
    have hzb : ((n : Int) == 0) = false := by simp; omega
    have HXE : Hid (hexL x = hexP x) := Lib.hid (by unfold hexL; rw [if_neg (by intro e; rw [e] at hl; simp at hl; omega)]; rfl)
    have HR0 : Hid (HxR w x (.int .i64 0) (w.alloc (.cells #[.pointer none, .slice none 0 0] 55))) := Lib.hid ⟨0, rfl, by omega, Bld.new w, (Below.refl _ _).alloc (Nat.le_refl _) _⟩
    clear hs hl
    go_enter Tryd.func54, Tryd.ntmps54
    go_wp2_with fail
    go_loopw [11] (fun iv wr => HxR w x iv wr) (fun iv _ => (n - intOf iv).toNat)
    case atStart => exact HR0.out
    case round =>
      clear HR0
      obtain ⟨k, rfl, hk, hbl, hb⟩ := hrel
      rw [HL.out] at hk
      have HBD := Lib.hid hbl
      have HBW := Lib.hid hb
      clear hbl hb
      by_cases hlt : k < n
      · have HSX := Lib.hid (hexP_take (b := x) (j := k) (by rw [HL.out]; exact hlt))
        obtain ⟨d, hd⟩ : ∃ d, x.getD k 0 = d := ⟨_, rfl⟩
        have hd9 : d < 256 := by rw [← hd]; exact HB.out k
        rw [hd] at HSX
        obtain ⟨b, o, rfl, hb0, hcl⟩ := HS.out.at_ (show 0 < n by omega)
        have p0 : wr.cell? ⟨b, o + k, none⟩ = some (.int .u8 (d : Int)) := (HBW.out.cell (p := ⟨b, o + k, none⟩) hb0).trans ((hcl k hlt).trans (by rw [hd]))
        have s1 : (Instr.index 9 (.string ⟨#[48, 49, 50, 51, 52, 53, 54, 55, 56, 57, 97, 98, 99, 100, 101, 102]⟩) (.int .u8 ((d : Int) / 16))).run Tryd.prog wr = .ok (.int .u8 ((sgL (d / 16) : Nat) : Int)) wr := by
          have h := sg_at (d / 16) (by omega) wr
          rw [show ((d / 16 : Nat) : Int) = (d : Int) / 16 by omega] at h
          exact h
        clear hcl hd hb0
        have HW1 := Lib.hid (wbyte_any (c := sgL (d / 16)) (sgL_byte (by omega)) HBD.out (by rw [hexP_len, List.length_take]; omega) HBW.out.size)
        obtain ⟨xk, hxk⟩ : ∃ xk, hexP (x.take (k + 1)) = xk := ⟨_, rfl⟩
        have HXK := Lib.hid hxk
        rw [hxk] at HSX
        clear hxk
        go_wp2_with fail
        refine HW1.out.mono ?_
        rintro e w2 ⟨rfl, hb2, hw2⟩
        have HBW2 := Lib.hid (HBW.out.trans hw2)
        have HW2 := Lib.hid (wbyte_any (c := sgL (d % 16)) (sgL_byte (by omega)) hb2 (by rw [List.length_append, hexP_len, List.length_take]; simp; omega) HBW2.out.size)
        clear hb2 hw2 p0 s1
        have s1 : (Instr.index 9 (.string ⟨#[48, 49, 50, 51, 52, 53, 54, 55, 56, 57, 97, 98, 99, 100, 101, 102]⟩) (.int .u8 ((d : Int) % 16))).run Tryd.prog w2 = .ok (.int .u8 ((sgL (d % 16) : Nat) : Int)) w2 := by
          have h := sg_at (d % 16) (by omega) w2
          rw [show ((d % 16 : Nat) : Int) = (d : Int) % 16 by omega] at h
          exact h
        go_wp2_with fail
        refine HW2.out.mono ?_
        rintro e w3 ⟨rfl, hb3, hw3⟩
        have HFI : Hid (HxR w x (.int .i64 ((k : Int) + 1)) w3) := Lib.hid ⟨k + 1, rfl, by rw [HL.out]; omega, by rw [HXK.out, HSX.out]; rw [List.append_assoc] at hb3; exact hb3, HBW2.out.trans hw3⟩
        clear hb3 hw3 s1
        go_wp2
        go_roundw
        case rel => exact HFI.out
        case measure => simp [intOf]; omega
      · obtain rfl : k = n := by omega
        have HBS : Hid (Calls Tryd.prog 25 #[.pointer (some ⟨w.heap.size, 0, none⟩)] wr fun e w' => e = .returned (.string (str (hexP (x.take k)))) ∧ Below w.heap.size wr w') := Lib.hid (bstr_any HBD.out HBW.out.size)
        have e9 : x.take k = x := List.take_of_length_le (by rw [HL.out]; exact Nat.le_refl _)
        rw [e9] at HBS
        clear e9
        go_wp2_with fail
        refine HBS.out.mono ?_
        rintro e w3 ⟨rfl, hb3⟩
        have HF := Lib.hid (HBW.out.trans hb3)
        clear hb3
        go_wp2
        go_ret
        exact ⟨by rw [HXE.out]; rfl, HF.out⟩
end
section
open Go.RowKit Go Go.Shelf
set_option linter.unusedVariables false
set_option linter.unusedSimpArgs false
set_option maxRecDepth 1000000
set_option maxHeartbeats 1000000
def rhoI : Ren := ⟨fun n => if n = 129 then 97 else if n = 171 then 55 else if n = 243 then 77 else if n = 246 then 86 else if n = 283 then 90 else if n = 284 then 91 else if n = 285 then 92 else if n = 286 then 93 else if n = 317 then 96 else if n = 318 then 98 else if n = 319 then 99 else if n = 320 then 100 else if n = 337 then 101 else if n = 338 then 102 else 0, fun n => if n = 2 then 2 else if n = 3 then 3 else if n = 4 then 4 else if n = 5 then 5 else if n = 9 then 9 else if n = 20 then 20 else if n = 37 then 24 else if n = 46 then 121 else if n = 51 then 137 else if n = 53 then 132 else if n = 171 then 131 else if n = 173 then 135 else if n = 212 then 141 else if n = 213 then 142 else if n = 232 then 145 else if n = 233 then 146 else 0, fun n => if n = 17 then 4 else if n = 18 then 5 else if n = 19 then 6 else 0⟩
theorem laysI : LaysM.n171 Tryd.prog rhoI where
  mixed := by kernel_rfl
  f129 := by kernel_rfl
  f171 := by kernel_rfl
  f243 := by kernel_rfl
  f246 := by kernel_rfl
  f283 := by kernel_rfl
  f284 := by kernel_rfl
  f285 := by kernel_rfl
  f286 := by kernel_rfl
  f317 := by kernel_rfl
  f318 := by kernel_rfl
  f319 := by kernel_rfl
  f320 := by kernel_rfl
  f337 := by kernel_rfl
  f338 := by kernel_rfl
  t0 := by kernel_rfl
  a0 := fun _ => by kernel_rfl
  z0 := fun _ => by kernel_rfl
  v0 := fun _ => by kernel_rfl
  t2 := by kernel_rfl
  a2 := fun _ => by kernel_rfl
  z2 := fun _ => by kernel_rfl
  v2 := fun _ => by kernel_rfl
  t3 := by kernel_rfl
  a3 := fun _ => by kernel_rfl
  z3 := fun _ => by kernel_rfl
  v3 := fun _ => by kernel_rfl
  t4 := by kernel_rfl
  a4 := fun _ => by kernel_rfl
  z4 := fun _ => by kernel_rfl
  v4 := fun _ => by kernel_rfl
  t5 := by kernel_rfl
  a5 := fun _ => by kernel_rfl
  z5 := fun _ => by kernel_rfl
  v5 := fun _ => by kernel_rfl
  t9 := by kernel_rfl
  a9 := fun _ => by kernel_rfl
  z9 := fun _ => by kernel_rfl
  v9 := fun _ => by kernel_rfl
  t20 := by kernel_rfl
  a20 := fun _ => by kernel_rfl
  z20 := fun _ => by kernel_rfl
  v20 := fun _ => by kernel_rfl
  t37 := by kernel_rfl
  a37 := fun _ => by kernel_rfl
  z37 := fun _ => by kernel_rfl
  v37 := fun _ => by kernel_rfl
  t46 := by kernel_rfl
  a46 := fun _ => by kernel_rfl
  z46 := fun _ => by kernel_rfl
  v46 := fun _ => by kernel_rfl
  t51 := by kernel_rfl
  a51 := fun _ => by kernel_rfl
  z51 := fun _ => by kernel_rfl
  v51 := fun _ => by kernel_rfl
  t53 := by kernel_rfl
  a53 := fun _ => by kernel_rfl
  z53 := fun _ => by kernel_rfl
  v53 := fun _ => by kernel_rfl
  t171 := by kernel_rfl
  a171 := fun _ => by kernel_rfl
  z171 := fun _ => by kernel_rfl
  v171 := fun _ => by kernel_rfl
  t173 := by kernel_rfl
  a173 := fun _ => by kernel_rfl
  z173 := fun _ => by kernel_rfl
  v173 := fun _ => by kernel_rfl
  t212 := by kernel_rfl
  a212 := fun _ => by kernel_rfl
  z212 := fun _ => by kernel_rfl
  v212 := fun _ => by kernel_rfl
  t213 := by kernel_rfl
  a213 := fun _ => by kernel_rfl
  z213 := fun _ => by kernel_rfl
  t232 := by kernel_rfl
  a232 := fun _ => by kernel_rfl
  z232 := fun _ => by kernel_rfl
  v232 := fun _ => by kernel_rfl
  t233 := by kernel_rfl
  a233 := fun _ => by kernel_rfl
  z233 := fun _ => by kernel_rfl
  v233 := fun _ => by kernel_rfl
  g17 := by kernel_rfl
  g18 := by kernel_rfl
  g19 := by kernel_rfl
  i0 := by kernel_rfl
  i2 := by kernel_rfl
  i3 := by kernel_rfl
  i4 := by kernel_rfl
  i5 := by kernel_rfl
  i9 := by kernel_rfl
  i20 := by kernel_rfl
  i37 := by kernel_rfl
  i46 := by kernel_rfl
  i51 := by kernel_rfl
  i53 := by kernel_rfl
  i171 := by kernel_rfl
  i173 := by kernel_rfl
  i212 := by kernel_rfl
  i232 := by kernel_rfl
  i233 := by kernel_rfl
  m17 := by kernel_rfl
  m18 := by kernel_rfl
  m19 := by kernel_rfl
/-- the table of ten's powers lies in its block -/
def Tn (W : World) : Prop := ∃ (t : TypeId) (m : Nat × Nat), W.heap[4]? = some (.cells (Lib.pow10Tab.map fun z => Value.int .u64 z).toArray t m)
theorem Tn.tab {W : World} (h : Tn W) : Lib.TabIs Tryd.prog W "internal/strconv.uint64pow10" .u64 Lib.pow10Tab := by
  obtain ⟨t, m, h⟩ := h
  have hg : Tryd.prog.globalNamed "internal/strconv.uint64pow10" = some 4 := by kernel_rfl
  simp only [Lib.TabIs, World.var?, hg, Option.bind_some, h]
theorem Tn.below {W w : World} (h : Tn W) (hb : Below W.heap.size W w) : Tn w := by
  obtain ⟨t, m, h⟩ := h
  exact ⟨t, m, (hb.block _ (Array.getElem?_eq_some_iff.1 h).1).trans h⟩
theorem dec_num (n : Nat) : Lib.decDigits n = bU (numL n) := by
  induction n using Nat.strongRecOn with
  | _ n ih =>
    rw [Lib.decDigits, numL]
    split
    · rfl
    · rw [ih (n / 10) (by omega)]
      unfold bU
      rw [List.map_append]; rfl
theorem itoa_any (n : Nat) (hn : n < 65536) (w : World) (h : Tn w) : Calls Tryd.prog 55 #[.int .i64 (n : Int)] w (GivesS w (numL n)) := by
  refine (Any.strconv_Itoa laysI (n : Int) (by omega) (by omega) w h.tab).mono ?_
  rintro e w' ⟨rfl, k, os, rfl⟩
  refine ⟨?_, ?_⟩
  · rw [Lib.itoa_nonneg, dec_num, bU_str]
  · exact Lib.below_grow _ w (Nat.le_refl _) k os
end
section
open Go.RowKit Go
set_option linter.unusedVariables false
set_option linter.unusedSimpArgs false
set_option maxRecDepth 1000000
set_option maxHeartbeats 1000000
theorem wr_const : (⟨#[119, 114, 105, 116, 101]⟩ : ByteArray) = str wrW := rfl
theorem rd_const : (⟨#[114, 101, 97, 100]⟩ : ByteArray) = str rdW := rfl
theorem no_const : (⟨#[110, 111, 110, 101]⟩ : ByteArray) = str noW := rfl
theorem told_any (q kd z1 z2 z3 z4 : Nat) (y : Bool) (A : Option Addr) (n c : Nat) (b : List Nat) (w : World) (hq : q = 119 ∨ q = 107 ∨ q = 110 ∨ q = 97 ∨ q = 98 ∨ q = 111 ∨ q = 115) (hz1 : z1 < 65536) (hz2 : z2 < 65536) (hz3 : z3 < 65536) (hz4 : z4 < 65536) (hs : BS w w.heap.size A n c b) (hn : n ≤ 1024) (hT : Tn w) :
    Calls Tryd.prog 37 #[.agg #[.int .i64 (kd : Int), .bool y, .int .i64 (z1 : Int), .int .i64 (z2 : Int), .int .i64 (z3 : Int), .int .i64 (z4 : Int), .slice A n c], .int .i32 ((sgnP q : Nat) : Int)] w (GivesS w (fldW ⟨kd, y, z1, z2, z3, z4, b⟩ q)) := by
  have HB0 : Hid (Below w.heap.size w (w.alloc (.cells #[.int .i64 (kd : Int), .bool y, .int .i64 (z1 : Int), .int .i64 (z2 : Int), .int .i64 (z3 : Int), .int .i64 (z4 : Int), .slice A n c] 30))) := Lib.hid (al1 _ _)
  have HE : Hid ((w.alloc (.cells #[.int .i64 (kd : Int), .bool y, .int .i64 (z1 : Int), .int .i64 (z2 : Int), .int .i64 (z3 : Int), .int .i64 (z4 : Int), .slice A n c] 30)).heap[w.heap.size]? = some (.cells #[.int .i64 (kd : Int), .bool y, .int .i64 (z1 : Int), .int .i64 (z2 : Int), .int .i64 (z3 : Int), .int .i64 (z4 : Int), .slice A n c] 30 (0, 0))) := Lib.hid (heap_alloc_new _ _)
  have HT : Hid (Tn (w.alloc (.cells #[.int .i64 (kd : Int), .bool y, .int .i64 (z1 : Int), .int .i64 (z2 : Int), .int .i64 (z3 : Int), .int .i64 (z4 : Int), .slice A n c] 30))) := Lib.hid (hT.below HB0.out)
  have HS : Hid (BS (w.alloc (.cells #[.int .i64 (kd : Int), .bool y, .int .i64 (z1 : Int), .int .i64 (z2 : Int), .int .i64 (z3 : Int), .int .i64 (z4 : Int), .slice A n c] 30)) (w.alloc (.cells #[.int .i64 (kd : Int), .bool y, .int .i64 (z1 : Int), .int .i64 (z2 : Int), .int .i64 (z3 : Int), .int .i64 (z4 : Int), .slice A n c] 30)).heap.size A n c b) := Lib.hid ((hs.below HB0.out).more HB0.out.size)
  obtain ⟨w0, hw0⟩ : ∃ w0, w.alloc (.cells #[.int .i64 (kd : Int), .bool y, .int .i64 (z1 : Int), .int .i64 (z2 : Int), .int .i64 (z3 : Int), .int .i64 (z4 : Int), .slice A n c] 30) = w0 := ⟨_, rfl⟩
  rw [hw0] at HB0 HE HT HS
  have g0 : w0.cell? ⟨w.heap.size, 0, none⟩ = some (.int .i64 (kd : Int)) := blk_cell HE.out 0
  have g1 : w0.cell? ⟨w.heap.size, 1, none⟩ = some (.bool y) := blk_cell HE.out 1
  have g2 : w0.cell? ⟨w.heap.size, 2, none⟩ = some (.int .i64 (z1 : Int)) := blk_cell HE.out 2
  have g3 : w0.cell? ⟨w.heap.size, 3, none⟩ = some (.int .i64 (z2 : Int)) := blk_cell HE.out 3
  have g4 : w0.cell? ⟨w.heap.size, 4, none⟩ = some (.int .i64 (z3 : Int)) := blk_cell HE.out 4
  have g5 : w0.cell? ⟨w.heap.size, 5, none⟩ = some (.int .i64 (z4 : Int)) := blk_cell HE.out 5
  have g6 : w0.cell? ⟨w.heap.size, 6, none⟩ = some (.slice A n c) := blk_cell HE.out 6
  have HX := Lib.hid (hex_any A n c b w0 HS.out hn)
  have HI : Hid (∀ m : Nat, m < 65536 → Calls Tryd.prog 55 #[.int .i64 (m : Int)] w0 (GivesS w0 (numL m))) := Lib.hid (fun m hm => itoa_any m hm w0 HT.out)
  have HFD : Hid (∀ p, Calls Tryd.prog 56 #[.pointer (some ⟨w.heap.size, 0, none⟩), .int .i32 ((p : Nat) : Int)] w0 fun e w' => e = .returned (.pointer (some ⟨w.heap.size, fldX p, none⟩)) ∧ w0 = w') := Lib.hid (fun p => field_any p _ w0)
  clear hT hs
  rcases hq with rfl | rfl | rfl | rfl | rfl | rfl | rfl
  · rw [show fldW ⟨kd, y, z1, z2, z3, z4, b⟩ 119 = numL z1 from by simp [fldW]]
    rw [show sgnP 119 = 87 from rfl]
    go_enter Tryd.func37, Tryd.ntmps37
    go_wp2_with fail
    refine (HFD.out 87).mono ?_
    rintro e w2 ⟨rfl, rfl⟩
    rw [show fldX 87 = 2 from rfl]
    go_wp2_with fail
    refine (HI.out z1 hz1).mono ?_
    rintro e w3 ⟨rfl, hb3⟩
    have HF := Lib.hid (HB0.out.trans (hb3.mono HB0.out.size))
    clear hb3
    go_wp2
    go_ret
    exact ⟨rfl, HF.out⟩
  · rw [show fldW ⟨kd, y, z1, z2, z3, z4, b⟩ 107 = numL z2 from by simp [fldW]]
    rw [show sgnP 107 = 75 from rfl]
    go_enter Tryd.func37, Tryd.ntmps37
    go_wp2_with fail
    refine (HFD.out 75).mono ?_
    rintro e w2 ⟨rfl, rfl⟩
    rw [show fldX 75 = 3 from rfl]
    go_wp2_with fail
    refine (HI.out z2 hz2).mono ?_
    rintro e w3 ⟨rfl, hb3⟩
    have HF := Lib.hid (HB0.out.trans (hb3.mono HB0.out.size))
    clear hb3
    go_wp2
    go_ret
    exact ⟨rfl, HF.out⟩
  · rw [show fldW ⟨kd, y, z1, z2, z3, z4, b⟩ 110 = numL z3 from by simp [fldW]]
    rw [show sgnP 110 = 78 from rfl]
    go_enter Tryd.func37, Tryd.ntmps37
    go_wp2_with fail
    refine (HFD.out 78).mono ?_
    rintro e w2 ⟨rfl, rfl⟩
    rw [show fldX 78 = 4 from rfl]
    go_wp2_with fail
    refine (HI.out z3 hz3).mono ?_
    rintro e w3 ⟨rfl, hb3⟩
    have HF := Lib.hid (HB0.out.trans (hb3.mono HB0.out.size))
    clear hb3
    go_wp2
    go_ret
    exact ⟨rfl, HF.out⟩
  · rw [show fldW ⟨kd, y, z1, z2, z3, z4, b⟩ 97 = numL z4 from by simp [fldW]]
    rw [show sgnP 97 = 65 from rfl]
    go_enter Tryd.func37, Tryd.ntmps37
    go_wp2_with fail
    refine (HFD.out 65).mono ?_
    rintro e w2 ⟨rfl, rfl⟩
    rw [show fldX 65 = 5 from rfl]
    go_wp2_with fail
    refine (HI.out z4 hz4).mono ?_
    rintro e w3 ⟨rfl, hb3⟩
    have HF := Lib.hid (HB0.out.trans (hb3.mono HB0.out.size))
    clear hb3
    go_wp2
    go_ret
    exact ⟨rfl, HF.out⟩
  · rw [show fldW ⟨kd, y, z1, z2, z3, z4, b⟩ 98 = hexL b from by simp [fldW]]
    rw [show sgnP 98 = 66 from rfl]
    go_enter Tryd.func37, Tryd.ntmps37
    go_wp2_with fail
    refine HX.out.mono ?_
    rintro e w3 ⟨rfl, hb3⟩
    have HF := Lib.hid (HB0.out.trans (hb3.mono HB0.out.size))
    clear hb3
    go_wp2
    go_ret
    exact ⟨rfl, HF.out⟩
  · rw [show fldW ⟨kd, y, z1, z2, z3, z4, b⟩ 111 = (if y then wrW else rdW) from by simp [fldW]]
    rw [show sgnP 111 = 77 from rfl]
    cases y
    · go_enter Tryd.func37, Tryd.ntmps37
      go_wp2
      go_ret
      exact ⟨rfl, HB0.out⟩
    · go_enter Tryd.func37, Tryd.ntmps37
      go_wp2
      go_ret
      exact ⟨rfl, HB0.out⟩
  · rw [show fldW ⟨kd, y, z1, z2, z3, z4, b⟩ 115 = (if y then noW else numL z1) from by simp [fldW]]
    rw [show sgnP 115 = 84 from rfl]
    cases y
    · go_enter Tryd.func37, Tryd.ntmps37
      go_wp2_with fail
      refine (HFD.out 84).mono ?_
      rintro e w2 ⟨rfl, rfl⟩
      rw [show fldX 84 = 2 from rfl]
      go_wp2_with fail
      refine (HI.out z1 hz1).mono ?_
      rintro e w3 ⟨rfl, hb3⟩
      have HF := Lib.hid (HB0.out.trans (hb3.mono HB0.out.size))
      clear hb3
      go_wp2
      go_ret
      exact ⟨rfl, HF.out⟩
    · go_enter Tryd.func37, Tryd.ntmps37
      go_wp2
      go_ret
      exact ⟨rfl, HB0.out⟩
end
section
open Go.RowKit Go Go.Shelf Go.Lib
set_option linter.unusedVariables false
set_option linter.unusedSimpArgs false
set_option maxRecDepth 1000000
set_option maxHeartbeats 1000000
def WrR (w0 : World) (a : Ac) (bi : Nat) (S : ByteArray) (ov : Value) (wr : World) : Prop := ∃ j, ov = .string (str (preA a j)) ∧ j ≤ (ordL a.kind.toNat).length ∧ wr.heap[bi]? = some (.stringIter S j) ∧ Below w0.heap.size w0 wr
theorem write31_any (kd z1 z2 z3 z4 : Nat) (y : Bool) (A : Option Addr) (n c : Nat) (b : List Nat) (w : World) (hm : mayLn ⟨kd, y, z1, z2, z3, z4, b⟩ = true) (hs : BS w w.heap.size A n c b) (hT : Tn w) (hK : Kn w) :
    Calls Tryd.prog 18 #[.agg #[.int .i64 (kd : Int), .bool y, .int .i64 (z1 : Int), .int .i64 (z2 : Int), .int .i64 (z3 : Int), .int .i64 (z4 : Int), .slice A n c]] w (GivesS w (lineA ⟨kd, y, z1, z2, z3, z4, b⟩)) := by
  have hA : mayA ⟨kd, y, z1, z2, z3, z4, b⟩ = true := by unfold mayLn at hm; rw [Bool.and_eq_true] at hm; exact hm.1
  obtain ⟨kd', y1', y2', y3', y4', hkd, hz1, hz2, hz3, hz4, hbl, e0, e1, e2, e3, e4⟩ := mayA_nat hA
  dsimp only at e0 e1 e2 e3 e4 hbl
  obtain rfl : kd = kd' := by omega
  obtain rfl : z1 = y1' := by omega
  obtain rfl : z2 = y2' := by omega
  obtain rfl : z3 = y3' := by omega
  obtain rfl : z4 = y4' := by omega
  clear e0 e1 e2 e3 e4
  have hbn : b.length = n := hs.len
  have hn : n ≤ 1024 := by omega
  have HB0 : Hid (Below w.heap.size w (w.alloc (.cells #[.int .i64 (kd : Int), .bool y, .int .i64 (z1 : Int), .int .i64 (z2 : Int), .int .i64 (z3 : Int), .int .i64 (z4 : Int), .slice A n c] 30))) := Lib.hid (al1 _ _)
  have HE : Hid ((w.alloc (.cells #[.int .i64 (kd : Int), .bool y, .int .i64 (z1 : Int), .int .i64 (z2 : Int), .int .i64 (z3 : Int), .int .i64 (z4 : Int), .slice A n c] 30)).heap[w.heap.size]? = some (.cells #[.int .i64 (kd : Int), .bool y, .int .i64 (z1 : Int), .int .i64 (z2 : Int), .int .i64 (z3 : Int), .int .i64 (z4 : Int), .slice A n c] 30 (0, 0))) := Lib.hid (heap_alloc_new _ _)
  have HT : Hid (Tn (w.alloc (.cells #[.int .i64 (kd : Int), .bool y, .int .i64 (z1 : Int), .int .i64 (z2 : Int), .int .i64 (z3 : Int), .int .i64 (z4 : Int), .slice A n c] 30))) := Lib.hid (hT.below HB0.out)
  have HK : Hid (Kn (w.alloc (.cells #[.int .i64 (kd : Int), .bool y, .int .i64 (z1 : Int), .int .i64 (z2 : Int), .int .i64 (z3 : Int), .int .i64 (z4 : Int), .slice A n c] 30))) := Lib.hid (hK.below HB0.out)
  have HS : Hid (BS (w.alloc (.cells #[.int .i64 (kd : Int), .bool y, .int .i64 (z1 : Int), .int .i64 (z2 : Int), .int .i64 (z3 : Int), .int .i64 (z4 : Int), .slice A n c] 30)) (w.alloc (.cells #[.int .i64 (kd : Int), .bool y, .int .i64 (z1 : Int), .int .i64 (z2 : Int), .int .i64 (z3 : Int), .int .i64 (z4 : Int), .slice A n c] 30)).heap.size A n c b) := Lib.hid ((hs.below HB0.out).more HB0.out.size)
  obtain ⟨w0, hw0⟩ : ∃ w0, w.alloc (.cells #[.int .i64 (kd : Int), .bool y, .int .i64 (z1 : Int), .int .i64 (z2 : Int), .int .i64 (z3 : Int), .int .i64 (z4 : Int), .slice A n c] 30) = w0 := ⟨_, rfl⟩
  rw [hw0] at HB0 HE HT HS HK
  have HTO : Hid (∀ q, (q = 119 ∨ q = 107 ∨ q = 110 ∨ q = 97 ∨ q = 98 ∨ q = 111 ∨ q = 115) → ∀ W, Below w0.heap.size w0 W → Calls Tryd.prog 37 #[.agg #[.int .i64 (kd : Int), .bool y, .int .i64 (z1 : Int), .int .i64 (z2 : Int), .int .i64 (z3 : Int), .int .i64 (z4 : Int), .slice A n c], .int .i32 ((sgnP q : Nat) : Int)] W (GivesS W (fldW ⟨kd, y, z1, z2, z3, z4, b⟩ q))) := Lib.hid (fun q hq W hW => told_any q kd z1 z2 z3 z4 y A n c b W hq hz1 hz2 hz3 hz4 ((HS.out.below hW).more hW.size) hn (HT.out.below hW))
  have g0 : w0.cell? ⟨w.heap.size, 0, none⟩ = some (.int .i64 (kd : Int)) := blk_cell HE.out 0
  have g1 : w0.cell? ⟨w.heap.size, 1, none⟩ = some (.bool y) := blk_cell HE.out 1
  have g2 : w0.cell? ⟨w.heap.size, 2, none⟩ = some (.int .i64 (z1 : Int)) := blk_cell HE.out 2
  have g3 : w0.cell? ⟨w.heap.size, 3, none⟩ = some (.int .i64 (z2 : Int)) := blk_cell HE.out 3
  have g4 : w0.cell? ⟨w.heap.size, 4, none⟩ = some (.int .i64 (z3 : Int)) := blk_cell HE.out 4
  have g5 : w0.cell? ⟨w.heap.size, 5, none⟩ = some (.int .i64 (z4 : Int)) := blk_cell HE.out 5
  have g6 : w0.cell? ⟨w.heap.size, 6, none⟩ = some (.slice A n c) := blk_cell HE.out 6
  obtain ⟨t9, m9, hk9⟩ := HK.out
  have p0 : w0.cell? ⟨0, kd * 2, none⟩ = some (.string (str (namesL.getD kd []))) := by rw [cell_of_row w0 0 (kd * 2) knV t9 m9 hk9, Nat.mul_comm, knV_name kd hkd]
  have p1 : w0.cell? ⟨0, kd * 2 + 1, none⟩ = some (.string (str (hasL kd))) := by rw [cell_of_row w0 0 (kd * 2 + 1) knV t9 m9 hk9, Nat.mul_comm, knV_has kd hkd]
  have hkdI : (kd : Int) < 20 := by omega
  obtain ⟨w1, hw1⟩ : ∃ w1, w0.alloc (.cells #[.string (str (namesL.getD kd [])), .string (str (hasL kd))] 74) = w1 := ⟨_, rfl⟩
  have HW1B : Hid (Below w0.heap.size w0 w1) := Lib.hid (by rw [← hw1]; exact al1 _ _)
  have HW1E : Hid (w1.heap[w0.heap.size]? = some (.cells #[.string (str (namesL.getD kd [])), .string (str (hasL kd))] 74 (0, 0))) := Lib.hid (by rw [← hw1]; exact heap_alloc_new _ _)
  have r0 : w1.cell? ⟨w0.heap.size, 0, none⟩ = some (.string (str (namesL.getD kd []))) := blk_cell HW1E.out 0
  have r1 : w1.cell? ⟨w0.heap.size, 1, none⟩ = some (.string (str (hasL kd))) := blk_cell HW1E.out 1
  have HIT : Hid ((w1.iter (str (hasL kd)) 0).heap[w1.heap.size]? = some (.stringIter (str (hasL kd)) 0)) := Lib.hid (World.iter_heap w1 _ 0)
  have HBI : Hid (Below w1.heap.size w1 (w1.iter (str (hasL kd)) 0)) := Lib.hid ((Below.refl _ _).alloc (Nat.le_refl _) _)
  have HST : Hid (WrR w0 ⟨kd, y, z1, z2, z3, z4, b⟩ w1.heap.size (str (hasL kd)) (.string (str (namesL.getD kd []))) (w1.iter (str (hasL kd)) 0)) := Lib.hid ⟨0, by simp [preA, joinW], Nat.zero_le _, HIT.out, HW1B.out.trans (HBI.out.mono HW1B.out.size)⟩
  have HNI : Hid (∀ j, j < (ordL kd).length → ∀ W (hk : W.heap[w1.heap.size]? = some (.stringIter (str (hasL kd)) j)) ty, (Instr.next (.pointer (some ⟨w1.heap.size, 0, none⟩)) true ty).run Tryd.prog W = .ok (.tuple #[.bool true, .int .i64 (j : Int), .int .i32 ((sgnP ((ordL kd).getD j 0) : Nat) : Int)]) (W.iterAt w1.heap.size (str (hasL kd)) (j + 1))) := Lib.hid (fun j h1 W hk ty => by
    have hlt : j < (str (hasL kd)).size := by rw [str_size, has_len]; exact h1
    have hb := has_byte kd
    have e := str_idx (fun i => Nat.lt_of_lt_of_le (hb i) (by omega)) (by rw [has_len]; exact h1) hlt
    have := run_next_ascii_at (P := Tryd.prog) W w1.heap.size (str (hasL kd)) j ty hk hlt (by rw [e]; exact hb j)
    rw [e, has_at h1] at this
    exact this)
  have HNE : Hid (∀ W (hk : W.heap[w1.heap.size]? = some (.stringIter (str (hasL kd)) (ordL kd).length)) ty, (Instr.next (.pointer (some ⟨w1.heap.size, 0, none⟩)) true ty).run Tryd.prog W = .ok (.tuple #[.bool false]) W) := Lib.hid (fun W hk ty => run_next_end_at W w1.heap.size (str (hasL kd)) (ordL kd).length ty hk (by rw [str_size, has_len]; exact Nat.lt_irrefl _))
  have HOI := Lib.hid (ord_in kd hkd)
  have hkN : (⟨kd, y, z1, z2, z3, z4, b⟩ : Ac).kind.toNat = kd := Int.toNat_natCast kd
  have HPN := Lib.hid (fun j (hj : j < (ordL kd).length) => preA_next ⟨kd, y, z1, z2, z3, z4, b⟩ (j := j) (by rw [hkN]; exact hj))
  have HPE := Lib.hid (preA_end ⟨kd, y, z1, z2, z3, z4, b⟩)
  have HFL : Hid (∀ q, (fldW ⟨kd, y, z1, z2, z3, z4, b⟩ q).length ≤ 2100) := Lib.hid (fld_len ⟨kd, y, z1, z2, z3, z4, b⟩ (by dsimp only; omega) (by dsimp only; omega) (by dsimp only; omega) (by dsimp only; omega) hbl)
  have HPL := Lib.hid (fun j (hj : j ≤ (ordL kd).length) => pre_len ⟨kd, y, z1, z2, z3, z4, b⟩ (by rw [hkN]; exact hkd) HFL.out j (by rw [hkN]; exact hj))
  have HOL := Lib.hid (ord_len kd hkd)
  have HLT1 : Hid (w.heap.size < w0.heap.size) := Lib.hid (by rw [← hw0]; simp)
  rw [hkN] at HPE
  obtain ⟨a, ha⟩ : ∃ a, (⟨kd, y, z1, z2, z3, z4, b⟩ : Ac) = a := ⟨_, rfl⟩
  rw [ha] at HST HTO HPN HPE HFL HPL hkN ⊢
  obtain ⟨S, hS⟩ : ∃ S, str (hasL kd) = S := ⟨_, rfl⟩
  rw [hS] at HST HNI HNE HIT HBI r1 p1 HW1E hw1
  obtain ⟨nm, hnm⟩ : ∃ nm, str (namesL.getD kd []) = nm := ⟨_, rfl⟩
  rw [hnm] at HST r0 p0 HW1E hw1
  clear hnm
  have HS9 : Hid (S.size = (ordL kd).length) := Lib.hid (by rw [← hS, str_size, has_len])
  have HKD := Lib.hid hkN
  clear hA hm hs hT hK hbn hbl hk9 hS ha hkN
  go_enter Tryd.func18, Tryd.ntmps18
  go_wp2_with fail
  go_loopw [4] (fun ov wr => WrR w0 a w1.heap.size S ov wr) (fun _ wr => (ordL kd).length - iterPos wr w1.heap.size)
  case atStart => exact HST.out
  case round =>
    clear HST r0 r1 p0 p1 g0 g1 g2 g3 g4 g5 g6 hw0 hw1
    obtain ⟨j, rfl, hj, hi, hb⟩ := hrel
    rw [HKD.out] at hj
    by_cases hlt : j < (ordL kd).length
    · have hnx := HNI.out j hlt wr hi
      have HQ := Lib.hid (iterAt_heap wr w1.heap.size S j (j + 1) hi)
      have HPI := Lib.hid (iterPos_at hi)
      have HBW : Hid (Below w0.heap.size w0 (wr.iterAt w1.heap.size S (j + 1))) := Lib.hid (below_iterAt hb HW1B.out.size S (j + 1))
      have HTC := Lib.hid (HTO.out _ (HOI.out j hlt) _ HBW.out)
      have HPJ := HPN.out j hlt
      rw [HKD.out] at HPJ
      have l1 := HPL.out j (by omega)
      have l2 := HFL.out ((ordL kd).getD j 0)
      have l3 := HOL.out
      generalize (ordL kd).getD j 0 = x at *
      generalize hfx : fldW a x = fx at *
      generalize hpa : preA a j = pj at *
      have s1 : (⟨#[32]⟩ : ByteArray).size + (str fx).size ≤ 9223372036854775807 := by rw [str_size, show (⟨#[32]⟩ : ByteArray).size = 1 from rfl]; omega
      have s1b : 1 + (str fx).size ≤ 9223372036854775807 := s1
      obtain ⟨qx, hqx⟩ : ∃ qx, 32 :: fx = qx := ⟨_, rfl⟩
      have e1 : (⟨#[32]⟩ : ByteArray) ++ str fx = str qx := by rw [← hqx]; exact str_app [32] fx
      have lq : qx.length = fx.length + 1 := by rw [← hqx]; rfl
      have s2 : (str pj).size + (str qx).size ≤ 9223372036854775807 := by rw [str_size, str_size]; omega
      obtain ⟨pk, hpk⟩ : ∃ pk, pj ++ qx = pk := ⟨_, rfl⟩
      have e2 : str pj ++ str qx = str pk := by rw [← hpk]; exact str_app pj qx
      have HPK : Hid (preA a (j + 1) = pk) := Lib.hid (by rw [HPJ, ← hpk, ← hqx])
      have HSZ : Hid (w1.heap.size < (wr.iterAt w1.heap.size S (j + 1)).heap.size) := Lib.hid (Array.getElem?_eq_some_iff.1 HQ.out).1
      have hwlt := HLT1.out
      have g0 : (wr.iterAt w1.heap.size S (j + 1)).cell? ⟨w.heap.size, 0, none⟩ = some (.int .i64 (kd : Int)) := (HBW.out.cell (p := ⟨w.heap.size, 0, none⟩) hwlt).trans (blk_cell HE.out 0)
      have g1 : (wr.iterAt w1.heap.size S (j + 1)).cell? ⟨w.heap.size, 1, none⟩ = some (.bool y) := (HBW.out.cell (p := ⟨w.heap.size, 1, none⟩) hwlt).trans (blk_cell HE.out 1)
      have g2 : (wr.iterAt w1.heap.size S (j + 1)).cell? ⟨w.heap.size, 2, none⟩ = some (.int .i64 (z1 : Int)) := (HBW.out.cell (p := ⟨w.heap.size, 2, none⟩) hwlt).trans (blk_cell HE.out 2)
      have g3 : (wr.iterAt w1.heap.size S (j + 1)).cell? ⟨w.heap.size, 3, none⟩ = some (.int .i64 (z2 : Int)) := (HBW.out.cell (p := ⟨w.heap.size, 3, none⟩) hwlt).trans (blk_cell HE.out 3)
      have g4 : (wr.iterAt w1.heap.size S (j + 1)).cell? ⟨w.heap.size, 4, none⟩ = some (.int .i64 (z3 : Int)) := (HBW.out.cell (p := ⟨w.heap.size, 4, none⟩) hwlt).trans (blk_cell HE.out 4)
      have g5 : (wr.iterAt w1.heap.size S (j + 1)).cell? ⟨w.heap.size, 5, none⟩ = some (.int .i64 (z4 : Int)) := (HBW.out.cell (p := ⟨w.heap.size, 5, none⟩) hwlt).trans (blk_cell HE.out 5)
      have g6 : (wr.iterAt w1.heap.size S (j + 1)).cell? ⟨w.heap.size, 6, none⟩ = some (.slice A n c) := (HBW.out.cell (p := ⟨w.heap.size, 6, none⟩) hwlt).trans (blk_cell HE.out 6)
      have HB8 := Lib.hid hb
      clear hb hi HPJ hfx hpa hqx hpk lq l1 l2 l3
      obtain ⟨wi, hwi⟩ : ∃ wi, wr.iterAt w1.heap.size S (j + 1) = wi := ⟨_, rfl⟩
      rw [hwi] at HQ HBW HTC HSZ hnx g0 g1 g2 g3 g4 g5 g6
      go_wp2_with fail
      refine HTC.out.mono ?_
      rintro e w3 ⟨rfl, hb3⟩
      have HQ3 : Hid (w3.heap[w1.heap.size]? = some (.stringIter S (j + 1))) := Lib.hid ((hb3.block _ HSZ.out).trans HQ.out)
      have HF : Hid (WrR w0 a w1.heap.size S (.string (str pk)) w3) := Lib.hid ⟨j + 1, by rw [HPK.out], by rw [HKD.out]; omega, HQ3.out, HBW.out.trans (hb3.mono HBW.out.size)⟩
      have HM : Hid ((ordL kd).length - iterPos w3 w1.heap.size < (ordL kd).length - iterPos wr w1.heap.size) := Lib.hid (by rw [iterPos_at HQ3.out, HPI.out]; omega)
      clear hb3
      go_wp2_with fail
      go_roundw
      case rel => exact HF.out
      case measure => exact HM.out
    · obtain rfl : j = (ordL kd).length := by omega
      have hnx := HNE.out wr hi
      have HF : Hid (Below w.heap.size w wr) := Lib.hid (HB0.out.trans (hb.mono HB0.out.size))
      rw [HPE.out]
      clear hb hi
      go_wp2_with fail
      go_ret
      exact ⟨rfl, HF.out⟩
end
section
open Go.RowKit Go
set_option linter.unusedVariables false
set_option linter.unusedSimpArgs false
set_option maxRecDepth 1000000
set_option maxHeartbeats 1000000
def PlTo (w : World) (a : Ac) (e : Ending) (w' : World) : Prop := (mayLn a = true ∧ e = .returned (.tuple #[.string (str (lineA a)), .int .i64 0]) ∧ Below w.heap.size w w') ∨ (mayLn a = false ∧ e = .returned (.tuple #[.string ⟨#[]⟩, .int .i64 1]) ∧ Below w.heap.size w w')
theorem pline_any (K : Int) (y : Bool) (z1 z2 z3 z4 : Int) (A : Option Addr) (n c : Nat) (b : List Nat) (w : World) (hs : BS w w.heap.size A n c b) (hT : Tn w) (hK : Kn w) :
    Calls Tryd.prog 7 #[.agg #[.int .i64 K, .bool y, .int .i64 z1, .int .i64 z2, .int .i64 z3, .int .i64 z4, .slice A n c]] w (PlTo w ⟨K, y, z1, z2, z3, z4, b⟩) := by
  have HB0 : Hid (Below w.heap.size w (w.alloc (.cells #[.int .i64 K, .bool y, .int .i64 z1, .int .i64 z2, .int .i64 z3, .int .i64 z4, .slice A n c] 30))) := Lib.hid (al1 _ _)
  have HE : Hid ((w.alloc (.cells #[.int .i64 K, .bool y, .int .i64 z1, .int .i64 z2, .int .i64 z3, .int .i64 z4, .slice A n c] 30)).heap[w.heap.size]? = some (.cells #[.int .i64 K, .bool y, .int .i64 z1, .int .i64 z2, .int .i64 z3, .int .i64 z4, .slice A n c] 30 (0, 0))) := Lib.hid (heap_alloc_new _ _)
  have HLT : Hid (w.heap.size < (w.alloc (.cells #[.int .i64 K, .bool y, .int .i64 z1, .int .i64 z2, .int .i64 z3, .int .i64 z4, .slice A n c] 30)).heap.size) := Lib.hid (by simp)
  obtain ⟨w0, hw0⟩ : ∃ w0, w.alloc (.cells #[.int .i64 K, .bool y, .int .i64 z1, .int .i64 z2, .int .i64 z3, .int .i64 z4, .slice A n c] 30) = w0 := ⟨_, rfl⟩
  rw [hw0] at HB0 HE HLT
  have HS : Hid (BS w0 w0.heap.size A n c b) := Lib.hid ((hs.below HB0.out).more HB0.out.size)
  have HT : Hid (Tn w0) := Lib.hid (hT.below HB0.out)
  have HK : Hid (Kn w0) := Lib.hid (hK.below HB0.out)
  have g0 : w0.cell? ⟨w.heap.size, 0, none⟩ = some (.int .i64 K) := blk_cell HE.out 0
  have g1 : w0.cell? ⟨w.heap.size, 1, none⟩ = some (.bool y) := blk_cell HE.out 1
  have g2 : w0.cell? ⟨w.heap.size, 2, none⟩ = some (.int .i64 z1) := blk_cell HE.out 2
  have g3 : w0.cell? ⟨w.heap.size, 3, none⟩ = some (.int .i64 z2) := blk_cell HE.out 3
  have g4 : w0.cell? ⟨w.heap.size, 4, none⟩ = some (.int .i64 z3) := blk_cell HE.out 4
  have g5 : w0.cell? ⟨w.heap.size, 5, none⟩ = some (.int .i64 z4) := blk_cell HE.out 5
  have g6 : w0.cell? ⟨w.heap.size, 6, none⟩ = some (.slice A n c) := blk_cell HE.out 6
  have HM := Lib.hid (pmay_any ⟨K, y, z1, z2, z3, z4, b⟩ A n c w0 HS.out)
  have HN : Hid (b.length = n) := Lib.hid hs.len
  clear hs hT hK
  go_enter Tryd.func7, Tryd.ntmps7
  go_wp2_with fail
  refine HM.out.mono ?_
  rintro e w1 ⟨rfl, hb1⟩
  clear g0 g1 g2 g3 g4 g5 g6 hw0
  have g0 : w1.cell? ⟨w.heap.size, 0, none⟩ = some (.int .i64 K) := (hb1.cell (p := ⟨w.heap.size, 0, none⟩) HLT.out).trans (blk_cell HE.out 0)
  have g1 : w1.cell? ⟨w.heap.size, 1, none⟩ = some (.bool y) := (hb1.cell (p := ⟨w.heap.size, 1, none⟩) HLT.out).trans (blk_cell HE.out 1)
  have g2 : w1.cell? ⟨w.heap.size, 2, none⟩ = some (.int .i64 z1) := (hb1.cell (p := ⟨w.heap.size, 2, none⟩) HLT.out).trans (blk_cell HE.out 2)
  have g3 : w1.cell? ⟨w.heap.size, 3, none⟩ = some (.int .i64 z2) := (hb1.cell (p := ⟨w.heap.size, 3, none⟩) HLT.out).trans (blk_cell HE.out 3)
  have g4 : w1.cell? ⟨w.heap.size, 4, none⟩ = some (.int .i64 z3) := (hb1.cell (p := ⟨w.heap.size, 4, none⟩) HLT.out).trans (blk_cell HE.out 4)
  have g5 : w1.cell? ⟨w.heap.size, 5, none⟩ = some (.int .i64 z4) := (hb1.cell (p := ⟨w.heap.size, 5, none⟩) HLT.out).trans (blk_cell HE.out 5)
  have g6 : w1.cell? ⟨w.heap.size, 6, none⟩ = some (.slice A n c) := (hb1.cell (p := ⟨w.heap.size, 6, none⟩) HLT.out).trans (blk_cell HE.out 6)
  have HB1 : Hid (Below w.heap.size w w1) := Lib.hid (HB0.out.trans (hb1.mono HB0.out.size))
  have HS1 : Hid (BS w1 w1.heap.size A n c b) := Lib.hid ((HS.out.below hb1).more hb1.size)
  have HT1 : Hid (Tn w1) := Lib.hid (HT.out.below hb1)
  have HK1 : Hid (Kn w1) := Lib.hid (HK.out.below hb1)
  clear hb1
  cases hA : mayA ⟨K, y, z1, z2, z3, z4, b⟩ with
  | false =>
    have HF : Hid (PlTo w ⟨K, y, z1, z2, z3, z4, b⟩ (.returned (.tuple #[.string ⟨#[]⟩, .int .i64 1])) w1) := Lib.hid (.inr ⟨by unfold mayLn; rw [hA]; rfl, rfl, HB1.out⟩)
    clear hA
    go_wp2_with fail
    exact bodyPost_ret (v := .tuple #[.string ⟨#[]⟩, .int .i64 1]) (by simp [results, Tryd.results7, go_sem]) rfl HF.out
  | true =>
    obtain ⟨kd, x1, x2, x3, x4, hkd, hz1, hz2, hz3, hz4, hbl, e0, e1, e2, e3, e4⟩ := mayA_nat hA
    dsimp only at e0 e1 e2 e3 e4
    subst e0 e1 e2 e3 e4
    cases hm : mayLn ⟨kd, y, x1, x2, x3, x4, b⟩ with
    | false =>
      have HF : Hid (PlTo w ⟨kd, y, x1, x2, x3, x4, b⟩ (.returned (.tuple #[.string ⟨#[]⟩, .int .i64 1])) w1) := Lib.hid (.inr ⟨hm, rfl, HB1.out⟩)
      have hm2 := hm
      unfold mayLn at hm2
      rw [hA, Bool.true_and, Bool.or_eq_false_iff, Bool.or_eq_false_iff, decide_eq_false_iff_not, decide_eq_false_iff_not] at hm2
      obtain ⟨⟨h1, h2⟩, h3⟩ := hm2
      dsimp only at h1 h2 h3
      obtain rfl : y = true := by cases y <;> first | rfl | cases h2
      obtain rfl : kd = 11 := by omega
      have h3I : ¬ (x1 : Int) = 0 := h3
      clear hA hm h1 h2 h3
      go_wp2_with fail
      exact bodyPost_ret (v := .tuple #[.string ⟨#[]⟩, .int .i64 1]) (by simp [results, Tryd.results7, go_sem]) rfl HF.out
    | true =>
      have HW := Lib.hid (write31_any kd x1 x2 x3 x4 y A n c b w1 hm HS1.out HT1.out HK1.out)
      have HL1 : Hid (∀ w3, Below w1.heap.size w1 w3 → PlTo w ⟨kd, y, x1, x2, x3, x4, b⟩ (.returned (.tuple #[.string (str (lineA ⟨kd, y, x1, x2, x3, x4, b⟩)), .int .i64 0])) w3) := Lib.hid (fun w3 h => .inl ⟨hm, rfl, HB1.out.trans (h.mono HB1.out.size)⟩)
      have hm2 := hm
      unfold mayLn at hm2
      rw [hA, Bool.true_and, Bool.or_eq_true, Bool.or_eq_true, decide_eq_true_eq, decide_eq_true_eq] at hm2
      dsimp only at hm2
      generalize lineA ⟨kd, y, x1, x2, x3, x4, b⟩ = la at *
      clear hA hm hbl
      by_cases h11 : kd = 11
      · subst h11
        cases y with
        | false =>
          go_wp2_with fail
          refine HW.out.mono ?_
          rintro e w3 ⟨rfl, hb3⟩
          have HF := Lib.hid (HL1.out w3 hb3)
          clear hb3
          go_wp2_with fail
          exact bodyPost_ret (v := .tuple #[.string (str la), .int .i64 0]) (by simp [results, Tryd.results7, go_sem]) rfl HF.out
        | true =>
          have h3 : (x1 : Int) = 0 := by
            rcases hm2 with (h | h) | h
            · exact absurd rfl h
            · cases h
            · exact h
          obtain rfl : x1 = 0 := by omega
          go_wp2_with fail
          refine HW.out.mono ?_
          rintro e w3 ⟨rfl, hb3⟩
          have HF := Lib.hid (HL1.out w3 hb3)
          clear hb3
          go_wp2_with fail
          exact bodyPost_ret (v := .tuple #[.string (str la), .int .i64 0]) (by simp [results, Tryd.results7, go_sem]) rfl HF.out
      · have h11I : ¬ (kd : Int) = 11 := by omega
        have h11b : ((kd : Int) == 11) = false := by simp; omega
        go_wp2_with fail
        refine HW.out.mono ?_
        rintro e w3 ⟨rfl, hb3⟩
        have HF := Lib.hid (HL1.out w3 hb3)
        clear hb3
        go_wp2_with fail
        exact bodyPost_ret (v := .tuple #[.string (str la), .int .i64 0]) (by simp [results, Tryd.results7, go_sem]) rfl HF.out
theorem bat_below {T e : TypeId} {B b : Nat} {p : Value} {bs : List Value} {w w' : World} (h : Lib.BuilderAt T e B b p bs w) (hb : Below w.heap.size w w') : Lib.BuilderAt T e B b p bs w' := by
  obtain ⟨hB, v, hk, ⟨h1, h2⟩, hne⟩ := h
  refine ⟨hB, v, (hb.block _ (Array.getElem?_eq_some_iff.1 hk).1).trans hk, ⟨h1, ?_⟩, hne⟩
  rcases h2 with h2 | ⟨g, cap, cur, e1, e2, e3, e4⟩
  · exact .inl h2
  · exact .inr ⟨g, cap, cur, e1, e2, (hb.block _ (Array.getElem?_eq_some_iff.1 e3).1).trans e3, e4⟩
theorem Bld.below2 {B b : Nat} {l : List Nat} {w w' : World} (h : Bld B b l w) (hb : Below w.heap.size w w') : Bld B b l w' := h.elim (fun x => .inl (bat_below x hb)) (fun x => .inr (bat_below x hb))
theorem printL_snoc (l : List Ac) (k : Nat) (hk : k < l.length) : printL (l.take (k + 1)) = printL (l.take k) ++ (lineA (aAt l k) ++ [10]) := by
  unfold printL
  rw [take_succ_aAt hk, List.flatMap_append, List.flatMap_cons, List.flatMap_nil, List.append_nil]
theorem printL_len (l : List Ac) (h : ∀ a ∈ l, mayLn a = true) : (printL l).length ≤ l.length * 6311 := by
  unfold printL
  induction l with
  | nil => simp
  | cons a l ih =>
    rw [List.flatMap_cons, List.length_append, List.length_append]
    have e1 : (a :: l).length = l.length + 1 := rfl
    have e2 : ([10] : List Nat).length = 1 := rfl
    rw [e1, e2]
    have := lineA_len (h a (by simp))
    have := ih (fun x hx => h x (by simp [hx]))
    omega
def allLn (l : List Ac) (k : Nat) : Prop := ∀ i, i < k → mayLn (aAt l i) = true
theorem allLn_mem {l : List Ac} {k : Nat} (h : allLn l k) (hk : k ≤ l.length) : ∀ a ∈ l.take k, mayLn a = true := fun a ha => by
  obtain ⟨i, hi, rfl⟩ := List.getElem_of_mem ha
  rw [List.length_take] at hi
  have := h i (by omega)
  rw [aAt, List.getD_eq_getElem?_getD, List.getElem?_eq_getElem (by omega)] at this
  rw [List.getElem_take]
  exact this
def PpTo (w : World) (l : List Ac) (e : Ending) (w' : World) : Prop := (allLn l l.length ∧ e = .returned (.tuple #[.string (str (printL l)), .int .i64 0]) ∧ Below w.heap.size w w') ∨ (¬ allLn l l.length ∧ e = .returned (.tuple #[.string ⟨#[]⟩, .int .i64 1]) ∧ Below w.heap.size w w')
def PpR (w : World) (l : List Ac) (iv : Value) (wr : World) : Prop := ∃ k : Nat, iv = .int .i64 (k : Int) ∧ k ≤ l.length ∧ allLn l k ∧ Bld w.heap.size w.heap.size (printL (l.take k)) wr ∧ Below w.heap.size w wr
theorem pprint_any (A : Option Addr) (n c : Nat) (l : List Ac) (w : World) (hv : AcV w A n l) (hn : n ≤ 10) (hT : Tn w) (hK : Kn w) :
    Calls Tryd.prog 11 #[.slice A n c] w (PpTo w l) := by
  have HV := Lib.hid hv
  have HL : Hid (l.length = n) := Lib.hid hv.1
  have HT := Lib.hid hT
  have HK := Lib.hid hK
  have HR0 : Hid (PpR w l (.int .i64 0) (w.alloc (.cells #[.pointer none, .slice none 0 0] 55))) := Lib.hid ⟨0, rfl, Nat.zero_le _, fun i hi => absurd hi (by omega), Bld.new w, (Below.refl _ _).alloc (Nat.le_refl _) _⟩
  clear hv hT hK
  go_enter Tryd.func11, Tryd.ntmps11
  go_wp2_with fail
  go_loopw [11] (fun iv wr => PpR w l iv wr) (fun iv _ => (n - intOf iv).toNat)
  case atStart => exact HR0.out
  case round =>
    clear HR0
    obtain ⟨k, rfl, hk, hal, hbl, hb⟩ := hrel
    rw [HL.out] at hk
    have HAL := Lib.hid hal
    have HBD := Lib.hid hbl
    have HB := Lib.hid hb
    have HPL : Hid ((printL (l.take k)).length ≤ 63110) := Lib.hid (by
      have h1 := printL_len (l.take k) (allLn_mem hal (by rw [HL.out]; exact hk))
      rw [List.length_take] at h1
      omega)
    clear hal hbl hb
    by_cases hlt : k < n
    · obtain ⟨b, o, A1, c1, rfl, hb0, q0, q1, q2, q3, q4, q5, q6, hs1, hz1⟩ := HV.out.at_ (show k < n by omega)
      have p0 : wr.cell? ⟨b, o + k * 7, none⟩ = some (.int .i64 (aAt l k).kind) := (HB.out.cell (p := ⟨b, o + k * 7, none⟩) hb0).trans q0
      have p1 : wr.cell? ⟨b, o + k * 7 + 1, none⟩ = some (.bool (aAt l k).yes) := (HB.out.cell (p := ⟨b, o + k * 7 + 1, none⟩) hb0).trans q1
      have p2 : wr.cell? ⟨b, o + k * 7 + 2, none⟩ = some (.int .i64 (aAt l k).which) := (HB.out.cell (p := ⟨b, o + k * 7 + 2, none⟩) hb0).trans q2
      have p3 : wr.cell? ⟨b, o + k * 7 + 3, none⟩ = some (.int .i64 (aAt l k).k) := (HB.out.cell (p := ⟨b, o + k * 7 + 3, none⟩) hb0).trans q3
      have p4 : wr.cell? ⟨b, o + k * 7 + 4, none⟩ = some (.int .i64 (aAt l k).n) := (HB.out.cell (p := ⟨b, o + k * 7 + 4, none⟩) hb0).trans q4
      have p5 : wr.cell? ⟨b, o + k * 7 + 5, none⟩ = some (.int .i64 (aAt l k).pos) := (HB.out.cell (p := ⟨b, o + k * 7 + 5, none⟩) hb0).trans q5
      have p6 : wr.cell? ⟨b, o + k * 7 + 6, none⟩ = some (.slice A1 (aAt l k).b.length c1) := (HB.out.cell (p := ⟨b, o + k * 7 + 6, none⟩) hb0).trans q6
      have hlt1 : b < wr.heap.size := Nat.lt_of_lt_of_le hb0 HB.out.size
      have HSN := Lib.hid (printL_snoc l k (by rw [HL.out]; exact hlt))
      have HB4 : Hid (Below wr.heap.size wr (wr.alloc (.cells #[.int .i64 (aAt l k).kind, .bool (aAt l k).yes, .int .i64 (aAt l k).which, .int .i64 (aAt l k).k, .int .i64 (aAt l k).n, .int .i64 (aAt l k).pos, .slice A1 (aAt l k).b.length c1] 30))) := Lib.hid (al1 _ _)
      have HE4 : Hid ((wr.alloc (.cells #[.int .i64 (aAt l k).kind, .bool (aAt l k).yes, .int .i64 (aAt l k).which, .int .i64 (aAt l k).k, .int .i64 (aAt l k).n, .int .i64 (aAt l k).pos, .slice A1 (aAt l k).b.length c1] 30)).heap[wr.heap.size]? = some (.cells #[.int .i64 (aAt l k).kind, .bool (aAt l k).yes, .int .i64 (aAt l k).which, .int .i64 (aAt l k).k, .int .i64 (aAt l k).n, .int .i64 (aAt l k).pos, .slice A1 (aAt l k).b.length c1] 30 (0, 0))) := Lib.hid (heap_alloc_new _ _)
      have HBW4 : Hid (Below w.heap.size w (wr.alloc (.cells #[.int .i64 (aAt l k).kind, .bool (aAt l k).yes, .int .i64 (aAt l k).which, .int .i64 (aAt l k).k, .int .i64 (aAt l k).n, .int .i64 (aAt l k).pos, .slice A1 (aAt l k).b.length c1] 30))) := Lib.hid (HB.out.trans (HB4.out.mono HB.out.size))
      have HBD4 : Hid (Bld w.heap.size w.heap.size (printL (l.take k)) (wr.alloc (.cells #[.int .i64 (aAt l k).kind, .bool (aAt l k).yes, .int .i64 (aAt l k).which, .int .i64 (aAt l k).k, .int .i64 (aAt l k).n, .int .i64 (aAt l k).pos, .slice A1 (aAt l k).b.length c1] 30))) := Lib.hid (HBD.out.below2 HB4.out)
      have HPLN := Lib.hid (pline_any (aAt l k).kind (aAt l k).yes (aAt l k).which (aAt l k).k (aAt l k).n (aAt l k).pos A1 (aAt l k).b.length c1 (aAt l k).b (wr.alloc (.cells #[.int .i64 (aAt l k).kind, .bool (aAt l k).yes, .int .i64 (aAt l k).which, .int .i64 (aAt l k).k, .int .i64 (aAt l k).n, .int .i64 (aAt l k).pos, .slice A1 (aAt l k).b.length c1] 30)) ((hs1.below HBW4.out).more HBW4.out.size) (HT.out.below HBW4.out) (HK.out.below HBW4.out))
      have HAE : Hid ((⟨(aAt l k).kind, (aAt l k).yes, (aAt l k).which, (aAt l k).k, (aAt l k).n, (aAt l k).pos, (aAt l k).b⟩ : Ac) = aAt l k) := Lib.hid rfl
      rw [HAE.out] at HPLN
      obtain ⟨n1, hn1⟩ : ∃ n1, (aAt l k).b.length = n1 := ⟨_, rfl⟩
      rw [hn1] at p6 HB4 HE4 HBW4 HBD4 HPLN
      clear q0 q1 q2 q3 q4 q5 q6 hs1 hz1 hb0 HAE hn1
      obtain ⟨a, ha⟩ : ∃ a, aAt l k = a := ⟨_, rfl⟩
      have HA := Lib.hid ha
      rw [ha] at p0 p1 p2 p3 p4 p5 HB4 HE4 HBW4 HBD4 HPLN HSN
      clear ha
      obtain ⟨K, y, z1, z2, z3, z4, bb⟩ := a
      dsimp only at p0 p1 p2 p3 p4 p5 HB4 HE4 HBW4 HBD4 HPLN
      obtain ⟨W4, hW4⟩ : ∃ W4, wr.alloc (.cells #[.int .i64 K, .bool y, .int .i64 z1, .int .i64 z2, .int .i64 z3, .int .i64 z4, .slice A1 n1 c1] 30) = W4 := ⟨_, rfl⟩
      rw [hW4] at HB4 HE4 HBW4 HBD4 HPLN
      have g0 : W4.cell? ⟨wr.heap.size, 0, none⟩ = some (.int .i64 K) := blk_cell HE4.out 0
      have g1 : W4.cell? ⟨wr.heap.size, 1, none⟩ = some (.bool y) := blk_cell HE4.out 1
      have g2 : W4.cell? ⟨wr.heap.size, 2, none⟩ = some (.int .i64 z1) := blk_cell HE4.out 2
      have g3 : W4.cell? ⟨wr.heap.size, 3, none⟩ = some (.int .i64 z2) := blk_cell HE4.out 3
      have g4 : W4.cell? ⟨wr.heap.size, 4, none⟩ = some (.int .i64 z3) := blk_cell HE4.out 4
      have g5 : W4.cell? ⟨wr.heap.size, 5, none⟩ = some (.int .i64 z4) := blk_cell HE4.out 5
      have g6 : W4.cell? ⟨wr.heap.size, 6, none⟩ = some (.slice A1 n1 c1) := blk_cell HE4.out 6
      go_wp2_with fail
      refine HPLN.out.mono ?_
      rintro e w5 h5
      rcases h5 with ⟨hm, rfl, hb5⟩ | ⟨hm, rfl, hb5⟩
      · have hll := lineA_len hm
        have HBW5 : Hid (Below w.heap.size w w5) := Lib.hid (HBW4.out.trans (hb5.mono HBW4.out.size))
        have HBD5 : Hid (Bld w.heap.size w.heap.size (printL (l.take k)) w5) := Lib.hid (HBD4.out.below2 hb5)
        have HA1 : Hid (allLn l (k + 1)) := Lib.hid (fun i hi => by
          by_cases e : i = k
          · subst e; rw [HA.out]; exact hm
          · exact HAL.out i (by omega))
        generalize lineA ⟨K, y, z1, z2, z3, z4, bb⟩ = la at *
        have hsz : (str la).size + 1 ≤ 9223372036854775807 := by rw [str_size]; omega
        have hnl : str la ++ (⟨#[10]⟩ : ByteArray) = str (la ++ [10]) := str_app la [10]
        have HWS := Lib.hid (wstr_any (m := la ++ [10]) HBD5.out (by rw [List.length_append]; have := HPL.out; simp; omega) HBW5.out.size)
        clear hb5 hm g0 g1 g2 g3 g4 g5 g6 p0 p1 p2 p3 p4 p5 p6 hW4 hll
        go_wp2_with fail
        refine HWS.out.mono ?_
        rintro e w6 ⟨⟨x6, rfl⟩, hb6, hw6⟩
        have HF : Hid (PpR w l (.int .i64 ((k : Int) + 1)) w6) := Lib.hid ⟨k + 1, rfl, by rw [HL.out]; omega, HA1.out, by rw [HSN.out]; exact hb6, HBW5.out.trans hw6⟩
        clear hb6 hw6
        go_wp2
        go_roundw
        case rel => exact HF.out
        case measure => simp [intOf]; omega
      · have HF : Hid (PpTo w l (.returned (.tuple #[.string ⟨#[]⟩, .int .i64 1])) w5) := Lib.hid (.inr ⟨(fun h => by
          have := h k (by rw [HL.out]; exact hlt)
          rw [HA.out, hm] at this
          cases this), rfl, HBW4.out.trans (hb5.mono HBW4.out.size)⟩)
        clear hb5 hm g0 g1 g2 g3 g4 g5 g6 p0 p1 p2 p3 p4 p5 p6 hW4
        go_wp2_with fail
        exact bodyPost_ret (v := .tuple #[.string ⟨#[]⟩, .int .i64 1]) (by simp [results, Tryd.results11, go_sem]) rfl HF.out
    · obtain rfl : k = n := by omega
      have e9 : l.take k = l := List.take_of_length_le (by rw [HL.out]; exact Nat.le_refl _)
      have HBS := Lib.hid (bstr_any HBD.out HB.out.size)
      rw [e9] at HBS
      clear e9
      go_wp2_with fail
      refine HBS.out.mono ?_
      rintro e w3 ⟨rfl, hb3⟩
      have HF : Hid (PpTo w l (.returned (.tuple #[.string (str (printL l)), .int .i64 0])) w3) := Lib.hid (.inl ⟨by rw [HL.out]; exact HAL.out, rfl, HB.out.trans hb3⟩)
      clear hb3
      go_wp2_with fail
      exact bodyPost_ret (v := .tuple #[.string (str (printL l)), .int .i64 0]) (by simp [results, Tryd.results11, go_sem]) rfl HF.out
end
end Go.Proofs.YtcaogiaoabdkdaaDoor
