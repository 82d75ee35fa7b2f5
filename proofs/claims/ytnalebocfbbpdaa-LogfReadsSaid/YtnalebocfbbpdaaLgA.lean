/-
  Package logf: entries in memory; what misplaced's function answers.
-/
import Derived.Test.YtnalebocfbbpdaaGeoC
import Derived.Test.YtnalebocfbbpdaaRowB
import Derived.Test.YtnalebocfbbpdaaOwnW
namespace Go.Proofs.Ytnalebocfbbpdaa
open Go.RowKit Go
set_option linter.unusedVariables false
set_option linter.unusedSimpArgs false
theorem sameB_iff {l l2 : List Nat} (h : ∀ i, l.getD i 0 < 256) (h2 : ∀ i, l2.getD i 0 < 256) : sameB l l2 = true ↔ l = l2 := by
  unfold sameB
  rw [beq_iff_eq]
  constructor
  · intro e
    refine str_inj h h2 ?_
    have hd : (str l).toList = (str l2).toList := e
    exact ByteArray.ext (Array.toList_inj.mp (by simpa [ByteArray.toList_eq] using hd))
  · rintro rfl; rfl
/-- from place o of block b on there are entries: a number, a slice that reads as its bytes -/
def EsB (w : World) (b o : Nat) (es : List (Int × List Nat)) : Prop :=
  b < w.heap.size ∧ ∀ i, i < es.length → ∃ A c, w.cell? ⟨b, o + i * 2, none⟩ = some (.int .i64 (es.getD i (0, [])).1) ∧ w.cell? ⟨b, o + i * 2 + 1, none⟩ = some (.slice A (es.getD i (0, [])).2.length c) ∧ BS w w.heap.size A (es.getD i (0, [])).2.length c (es.getD i (0, [])).2
theorem EsB.below {w w' : World} {b o : Nat} {es : List (Int × List Nat)} (h : EsB w b o es) (hb : Below w.heap.size w w') : EsB w' b o es :=
  ⟨Nat.lt_of_lt_of_le h.1 hb.size, fun i hi => by
    obtain ⟨A, c, h1, h2, h3⟩ := h.2 i hi
    exact ⟨A, c, (hb.cell (p := ⟨b, o + i * 2, none⟩) h.1).trans h1, (hb.cell (p := ⟨b, o + i * 2 + 1, none⟩) h.1).trans h2, (h3.below hb).more hb.size⟩⟩
/-- block g has one number -/
def One (w : World) (g : Nat) (t : TypeId) (x : Int) : Prop := w.heap[g]? = some (.cells #[.int .i64 x] t (0, 0))
theorem One.cell {w : World} {g : Nat} {t : TypeId} {x : Int} (h : One w g t x) : w.cell? ⟨g, 0, none⟩ = some (.int .i64 x) := blk_cell h 0
theorem One.lt {w : World} {g : Nat} {t : TypeId} {x : Int} (h : One w g t x) : g < w.heap.size := blk_lt h
theorem lodd_no (A : Option Addr) (c : Nat) (w : World) : Calls Try.prog 29 #[.slice A 256 c] w fun e w' => e = .returned (.bool false) ∧ w = w' := by
  go_enter Try.func29, Try.ntmps29
  go_wp2
  go_ret
  exact ⟨rfl, rfl⟩
theorem lodd_yes (A : Option Addr) (n c : Nat) (hn : n ≠ 256) (w : World) : Calls Try.prog 29 #[.slice A n c] w fun e w' => e = .returned (.bool true) ∧ w = w' := by
  have hb : ((n : Int) != 256) = true := by rw [bne_iff_ne]; omega
  go_enter Try.func29, Try.ntmps29
  go_wp2
  go_ret
  exact ⟨by first | rfl | exact ret_bool (decide_eq_true (by omega)), rfl⟩
/-- may an entry of number K and n bytes not stand behind one of number last? -/
def Mis (last : Int) (se : Nat) (K : Int) (n : Nat) : Prop := K ≤ last ∨ (se : Int) ≤ K ∨ n ≠ 256
def MisTo (w : World) (gl : Nat) (K : Int) (b : Bool) (e : Ending) (w' : World) : Prop := e = .returned (.bool b) ∧ w.grownBy w' (some gl) ∧ One w' gl 3 K
theorem mis_post {w : World} {gl : Nat} {last K : Int} (hl : One w gl 3 last) (o : Obj) (b : Bool) : MisTo w gl K b (.returned (.bool b)) ((w.setCell ⟨gl, 0, none⟩ (.int .i64 K)).alloc o) := by
  refine ⟨rfl, only_alloc (only_set (p := ⟨gl, 0, none⟩) (World.grownBy.refl w (some gl)) (.inl rfl) _) o, ?_⟩
  have h1 := blk_alloc (blk_set hl 0 (Value.int IntKind.i64 K)) o
  simpa [One] using h1
set_option maxHeartbeats 1000000 in
theorem mis_yes (K last : Int) (se n c gl gs : Nat) (A : Option Addr) (w : World) (hl : One w gl 3 last) (hs : One w gs 3 (se : Int)) (hne : gl ≠ gs) (hm : Mis last se K n) :
    Calls Try.prog 38 #[.agg #[.int .i64 K, .slice A n c], .pointer (some ⟨gl, 0, none⟩), .pointer (some ⟨gs, 0, none⟩)] w (MisTo w gl K true) := by
  have hlt := hl.lt
  have hlt2 := hs.lt
  have hne2 := hne.symm
  have c0 := hl.cell
  have c1 := hs.cell
  have f0 : w.frozen? ⟨gl, 0, none⟩ = false := blk_free hl 0
  have HP := Lib.hid fun o => mis_post (K := K) hl o true
  clear hl hs
  rcases (by unfold Mis at hm; omega : K ≤ last ∨ (last < K ∧ (se : Int) ≤ K) ∨ (last < K ∧ K < (se : Int) ∧ n ≠ 256)) with h | ⟨h, h2⟩ | ⟨h, h2, h3⟩
  · go_enter Try.func38, Try.ntmps38
    go_wp2
    go_ret
    exact HP.out _
  · go_enter Try.func38, Try.ntmps38
    go_wp2
    go_ret
    first | exact HP.out _ | (rw [decide_eq_true h2]; exact HP.out _)
  · have H3 := Lib.hid h3
    clear h3 hm
    go_enter Try.func38, Try.ntmps38
    go_wp2_with fail
    refine (lodd_yes A n c H3.out _).mono ?_
    rintro e w' ⟨rfl, rfl⟩
    go_wp2
    go_ret
    exact HP.out _
set_option maxHeartbeats 1000000 in
theorem mis_no (K last : Int) (se c gl gs : Nat) (A : Option Addr) (w : World) (hl : One w gl 3 last) (hs : One w gs 3 (se : Int)) (hne : gl ≠ gs) (h : last < K) (h2 : K < (se : Int)) :
    Calls Try.prog 38 #[.agg #[.int .i64 K, .slice A 256 c], .pointer (some ⟨gl, 0, none⟩), .pointer (some ⟨gs, 0, none⟩)] w (MisTo w gl K false) := by
  have hlt := hl.lt
  have hlt2 := hs.lt
  have hne2 := hne.symm
  have c0 := hl.cell
  have c1 := hs.cell
  have f0 : w.frozen? ⟨gl, 0, none⟩ = false := blk_free hl 0
  have HP := Lib.hid fun o => mis_post (K := K) hl o false
  have hd : decide ((se : Int) ≤ K) = false := decide_eq_false (by omega)
  clear hl hs
  go_enter Try.func38, Try.ntmps38
  go_wp2_with fail
  refine (lodd_no A c _).mono ?_
  rintro e w' ⟨rfl, rfl⟩
  go_wp2
  go_ret
  exact HP.out _
/-- misplaced: a function over two cells of its own -/
def MpTo (w : World) (se : Nat) (e : Ending) (w' : World) : Prop :=
  ∃ gl gs, e = .returned (.func (Fn.func 38) #[] #[.pointer (some ⟨gl, 0, none⟩), .pointer (some ⟨gs, 0, none⟩)]) ∧ w.heap.size ≤ gl ∧ gl ≠ gs ∧ w.heap.size ≤ gs ∧ Below w.heap.size w w' ∧ One w' gl 3 (-1) ∧ One w' gs 3 (se : Int)
set_option maxHeartbeats 1000000 in
theorem misplaced_any (p t : Nat) (h : Geo.May p t) (w : World) : Calls Try.prog 24 #[.agg #[.int .i64 (p : Int), .int .i64 (t : Int)]] w (MpTo w (Geo.se p)) := by
  have hp : p ≤ 64 := by unfold Geo.May at h; omega
  have ht24 : t ≤ 24 := by unfold Geo.May at h; omega
  have hb : Below w.heap.size w (w.alloc (.cells #[.int .i64 (p : Int), .int .i64 (t : Int)] 23)) := (Below.refl _ _).alloc (Nat.le_refl _) _
  have ht := Two.new w 23 (p : Int) (t : Int)
  have HB := Lib.hid hb
  have HT := Lib.hid ht
  have HI : Hid ((Try.prog.info? 23).map (·.size) = some (#[Value.int .i64 (p : Int), Value.int .i64 (t : Int)] : Array Value).size) := Lib.hid (info_geo2 p t)
  have HSE := Lib.hid (fun W => geo_Sealed_yes p t hp ht24 h W)
  generalize Geo.se p = se at *
  clear hb ht h
  go_enter Try.func24, Try.ntmps24
  go_wp2_with fail
  refine (HSE.out _).mono ?_
  rintro e w1 ⟨rfl, hb1⟩
  have HB1 := Lib.hid (HB.out.trans (hb1.mono HB.out.size))
  have hsz := HB1.out.size
  clear hb1
  have e1 : (w1.alloc (.cells #[.int .i64 (-1)] 3)).heap.size = w1.heap.size + 1 := by simp
  have k1 : One ((w1.alloc (.cells #[.int .i64 (-1)] 3)).alloc (.cells #[.int .i64 (se : Int)] 3)) w1.heap.size 3 (-1) := blk_alloc (heap_alloc_new w1 _) _
  have k2 := heap_alloc_new (w1.alloc (.cells #[.int .i64 (-1)] 3)) (.cells #[.int .i64 (se : Int)] 3)
  rw [e1] at k2
  have HF : Hid (MpTo w se (.returned (.func (Fn.func 38) #[] #[.pointer (some ⟨w1.heap.size, 0, none⟩), .pointer (some ⟨w1.heap.size + 1, 0, none⟩)])) ((w1.alloc (.cells #[.int .i64 (-1)] 3)).alloc (.cells #[.int .i64 (se : Int)] 3))) :=
    Lib.hid ⟨_, _, rfl, hsz, by omega, by omega, (HB1.out.alloc hsz _).alloc (by rw [e1]; omega) _, k1, k2⟩
  clear e1 k1 k2
  go_wp2
  go_ret
  exact HF.out
/-! a log's entries are looked through -/
def kAt (es : List (Int × List Nat)) (i : Nat) : Int := (es.getD i (0, [])).1
def dAt (es : List (Int × List Nat)) (i : Nat) : List Nat := (es.getD i (0, [])).2
def prevK (es : List (Int × List Nat)) : Nat → Int
  | 0 => -1
  | i + 1 => kAt es i
/-- entry i may not stand there -/
def MisAt (es : List (Int × List Nat)) (se i : Nat) : Prop := Mis (prevK es i) se (kAt es i) (dAt es i).length
def LxR (w : World) (es : List (Int × List Nat)) (gl gs se : Nat) (k : Nat) (wr : World) : Prop := Below w.heap.size w wr ∧ One wr gl 3 (prevK es k) ∧ One wr gs 3 (se : Int)
theorem lx_next {w wr w1 : World} {es : List (Int × List Nat)} {gl gs se k : Nat} (hgl : w.heap.size ≤ gl) (hne : gl ≠ gs) (h : LxR w es gl gs se k wr) (hg : wr.grownBy w1 (some gl)) (ho : One w1 gl 3 (kAt es k)) : LxR w es gl gs se (k + 1) w1 := by
  obtain ⟨h1, h2, h3⟩ := h
  exact ⟨below_only h1 hgl h1.size hg, ho, (hg.block gs h3.lt (fun e => hne (Option.some.inj e).symm)).trans h3⟩
def LxTo (w : World) (B : Nat) (v : Int) (e : Ending) (w' : World) : Prop := e = .returned (.int .i64 v) ∧ Below B w w'
set_option maxHeartbeats 1000000 in
theorem lindex_no (b o c gl gs se : Nat) (es : List (Int × List Nat)) (w0 w : World) (hE : EsB w0 b o es) (hb0 : Below w0.heap.size w0 w) (hl : One w gl 3 (-1)) (hs : One w gs 3 (se : Int)) (hgl : w0.heap.size ≤ gl) (hne : gl ≠ gs) (hn : es.length ≤ 1000) (hok : ∀ i, i < es.length → ¬ MisAt es se i) :
    Calls Try.prog 36 #[.slice (some ⟨b, o, none⟩) es.length c, .func (Fn.func 38) #[] #[.pointer (some ⟨gl, 0, none⟩), .pointer (some ⟨gs, 0, none⟩)]] w (fun e w' => e = .returned (.int .i64 (-1)) ∧ Below w0.heap.size w0 w') := by
  have HE := Lib.hid hE
  have HOK := Lib.hid hok
  have HR : Hid (LxR w0 es gl gs se 0 w) := Lib.hid ⟨hb0, hl, hs⟩
  clear hE hok hl hs hb0
  go_enter Try.func36, Try.ntmps36
  go_wp2
  go_loopw [8] (fun i wr => ∃ k : Nat, i = .int .i64 (k : Int) ∧ k ≤ es.length ∧ LxR w0 es gl gs se k wr) (fun i _ => (es.length - intOf i).toNat)
  case atStart => exact ⟨0, rfl, by omega, HR.out⟩
  case round =>
    clear HR
    obtain ⟨k, rfl, hk, hx⟩ := hrel
    have HX := Lib.hid hx
    clear hx
    by_cases hlt : k < es.length
    · obtain ⟨A, c1, q1, q2, _⟩ := HE.out.2 k hlt
      have hno := HOK.out k hlt
      have hd : (dAt es k).length = 256 ∧ prevK es k < kAt es k ∧ kAt es k < (se : Int) := by unfold MisAt Mis at hno; omega
      have p1 : wr.cell? ⟨b, o + k * 2, none⟩ = some (.int .i64 (kAt es k)) := (HX.out.1.cell (p := ⟨b, o + k * 2, none⟩) HE.out.1).trans q1
      have p2 : wr.cell? ⟨b, o + k * 2 + 1, none⟩ = some (.slice A 256 c1) := by
        have h9 := (HX.out.1.cell (p := ⟨b, o + k * 2 + 1, none⟩) HE.out.1).trans q2
        rw [show (es.getD k (0, [])).2.length = 256 from hd.1] at h9
        exact h9
      have HC := Lib.hid (mis_no (kAt es k) (prevK es k) se c1 gl gs A wr HX.out.2.1 HX.out.2.2 hne hd.2.1 hd.2.2)
      have HN := Lib.hid (fun w1 => lx_next (w1 := w1) hgl hne HX.out)
      generalize kAt es k = K at *
      clear q1 q2 hno hd
      go_wp2_with fail
      refine HC.out.mono ?_
      rintro e w1 ⟨rfl, hg1, ho1⟩
      have HN1 := Lib.hid (HN.out w1 hg1 ho1)
      clear hg1 ho1 p1 p2
      go_wp2
      go_roundw
      case rel => exact ⟨k + 1, rfl, by omega, HN1.out⟩
      case measure => simp [intOf]; omega
    · obtain rfl : k = es.length := by omega
      go_wp2
      go_ret
      exact ⟨rfl, HX.out.1⟩
end Go.Proofs.Ytnalebocfbbpdaa
