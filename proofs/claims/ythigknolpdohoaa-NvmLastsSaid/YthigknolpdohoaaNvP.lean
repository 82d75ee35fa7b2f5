/-
  The words of a device as a list: what the block of its lines holds, word by word.
-/
import Derived.Test.YthigknolpdohoaaByt
import Derived.Test.YthigknolpdohoaaCel
namespace Go.Proofs.Ythigknolpdohoaa
open Go.RowKit Go
set_option linter.unusedVariables false
/-- a word: its bytes as they last and as they are read, whether it is pending, whether it is marked -/
structure Wd where
  lasts : List Nat
  now : List Nat
  pend : Bool
  mark : Bool
/-- a word of eight bytes and eight -/
structure Wd.Ok (x : Wd) : Prop where
  l : x.lasts.length = 8
  n : x.now.length = 8
  lb : ∀ v ∈ x.lasts, v < 256
  nb : ∀ v ∈ x.now, v < 256
def wdC (x : Wd) : List Value := bvals x.lasts ++ (bvals x.now ++ [.bool x.pend, .bool x.mark])
theorem wdC_len {x : Wd} (h : x.Ok) : (wdC x).length = 18 := by simp [wdC, bvals_len, h.l, h.n]
def encM (ws : List Wd) : List Value := ws.flatMap wdC
def OkM (ws : List Wd) : Prop := ∀ x ∈ ws, x.Ok
theorem OkM.set {ws : List Wd} (h : OkM ws) (j : Nat) {y : Wd} (hy : y.Ok) : OkM (ws.set j y) := fun x hx => by
  rcases List.mem_or_eq_of_mem_set hx with h1 | h1
  · exact h x h1
  · exact h1 ▸ hy
theorem OkM.take {ws : List Wd} (h : OkM ws) (j : Nat) : OkM (ws.take j) := fun x hx => h x (List.mem_of_mem_take hx)
theorem encM_len : ∀ {ws : List Wd}, OkM ws → (encM ws).length = 18 * ws.length
  | [], _ => rfl
  | x :: r, h => by
    have h1 := encM_len (ws := r) (fun y hy => h y (List.mem_cons_of_mem _ hy))
    have h2 := wdC_len (h x (List.mem_cons_self ..))
    unfold encM at h1 ⊢
    rw [List.flatMap_cons, List.length_append, h1, h2, List.length_cons]
    omega
theorem encM_set {ws : List Wd} {j : Nat} (hj : j < ws.length) (y : Wd) : encM (ws.set j y) = encM (ws.take j) ++ (wdC y ++ encM (ws.drop (j + 1))) := by
  rw [List.set_eq_take_append_cons_drop, if_pos hj]
  unfold encM
  rw [List.flatMap_append, List.flatMap_cons]
theorem encM_at {ws : List Wd} {j : Nat} {x : Wd} (hj : ws[j]? = some x) : encM ws = encM (ws.take j) ++ (wdC x ++ encM (ws.drop (j + 1))) := by
  obtain ⟨hl, he⟩ := List.getElem?_eq_some_iff.mp hj
  rw [← encM_set hl x, ← he, List.set_getElem_self]
theorem wd_lt {ws : List Wd} {j : Nat} {x : Wd} (hj : ws[j]? = some x) : j < ws.length := (List.getElem?_eq_some_iff.mp hj).1
theorem wd_mem {ws : List Wd} {j : Nat} {x : Wd} (hj : ws[j]? = some x) : x ∈ ws := List.mem_of_getElem? hj
theorem take_len {ws : List Wd} (hok : OkM ws) {j : Nat} (hj : j < ws.length) : (encM (ws.take j)).length = 18 * j := by
  rw [encM_len (hok.take j), List.length_take]; congr 1; omega
theorem splice_app {α : Type} (P C S q : List α) (i : Nat) (h : i + q.length ≤ C.length) : splice (P ++ (C ++ S)) (P.length + i) q = P ++ (splice C i q ++ S) := by
  unfold splice
  rw [List.take_length_add_append, List.take_append_of_le_length (by omega), show P.length + i + q.length = P.length + (i + q.length) by omega, List.drop_length_add_append, List.drop_append_of_le_length h]
  simp [List.append_assoc]
theorem set_app {α : Type} (P C S : List α) (i : Nat) (v : α) (h : i < C.length) : (P ++ (C ++ S)).set (P.length + i) v = P ++ (C.set i v ++ S) := by
  rw [List.set_append_right _ _ (by omega), Nat.add_sub_cancel_left, List.set_append_left _ _ h]
/-- some cells of one word turn -/
theorem encM_splice {ws : List Wd} (hok : OkM ws) {j : Nat} {x y : Wd} (hj : ws[j]? = some x) (i : Nat) (q : List Value) (hi : i + q.length ≤ 18) (hy : wdC y = splice (wdC x) i q) : splice (encM ws) (18 * j + i) q = encM (ws.set j y) := by
  rw [encM_set (wd_lt hj), encM_at hj, hy]
  have := splice_app (encM (ws.take j)) (wdC x) (encM (ws.drop (j + 1))) q i (by rw [wdC_len (hok x (wd_mem hj))]; exact hi)
  rw [take_len hok (wd_lt hj)] at this
  exact this
/-- one cell of one word turns -/
theorem encM_put {ws : List Wd} (hok : OkM ws) {j : Nat} {x y : Wd} (hj : ws[j]? = some x) (i : Nat) (v : Value) (hi : i < 18) (hy : wdC y = (wdC x).set i v) : (encM ws).set (18 * j + i) v = encM (ws.set j y) := by
  rw [encM_set (wd_lt hj), encM_at hj, hy]
  have := set_app (encM (ws.take j)) (wdC x) (encM (ws.drop (j + 1))) i v (by rw [wdC_len (hok x (wd_mem hj))]; exact hi)
  rw [take_len hok (wd_lt hj)] at this
  exact this
/-- a word as a whole -/
theorem encM_all {ws : List Wd} (hok : OkM ws) {j : Nat} {x y : Wd} (hj : ws[j]? = some x) (hy : y.Ok) : splice (encM ws) (18 * j) (wdC y) = encM (ws.set j y) := by
  have h1 := wdC_len (hok x (wd_mem hj))
  have h2 := wdC_len hy
  exact encM_splice hok hj 0 (wdC y) (by omega) (by
    unfold splice
    rw [List.take_zero, List.nil_append, List.drop_eq_nil_of_le (by omega), List.append_nil])
/-- the cells of the word j -/
theorem encM_cell {ws : List Wd} (hok : OkM ws) {j : Nat} {x : Wd} (hj : ws[j]? = some x) (i : Nat) (hi : i < 18) : (encM ws)[18 * j + i]? = (wdC x)[i]? := by
  have h1 := wdC_len (hok x (wd_mem hj))
  have h2 := take_len hok (wd_lt hj)
  rw [encM_at hj, List.getElem?_append_right (by omega), h2, Nat.add_sub_cancel_left, List.getElem?_append_left (by omega)]
theorem wdC_last {x : Wd} (h : x.Ok) (i : Nat) (hi : i < 8) : (wdC x)[i]? = some (.int .u8 ((x.lasts.getD i 0 : Nat) : Int)) := by
  have hl := h.l
  unfold wdC bvals
  rw [List.getElem?_append_left (by rw [List.length_map]; omega), List.getElem?_map, List.getElem?_eq_getElem (by omega), List.getD_eq_getElem?_getD, List.getElem?_eq_getElem (by omega)]
  rfl
theorem wdC_now {x : Wd} (h : x.Ok) (i : Nat) (hi : i < 8) : (wdC x)[8 + i]? = some (.int .u8 ((x.now.getD i 0 : Nat) : Int)) := by
  have hl := h.l
  have hn := h.n
  unfold wdC bvals
  rw [List.getElem?_append_right (by rw [List.length_map]; omega), List.length_map, hl, Nat.add_sub_cancel_left, List.getElem?_append_left (by rw [List.length_map]; omega), List.getElem?_map, List.getElem?_eq_getElem (by omega), List.getD_eq_getElem?_getD, List.getElem?_eq_getElem (by omega)]
  rfl
theorem wdC_pend {x : Wd} (h : x.Ok) : (wdC x)[16]? = some (.bool x.pend) := by
  unfold wdC
  rw [List.getElem?_append_right (by rw [bvals_len, h.l]; omega), bvals_len, h.l, List.getElem?_append_right (by rw [bvals_len, h.n]; omega), bvals_len, h.n]
  rfl
theorem wdC_mark {x : Wd} (h : x.Ok) : (wdC x)[17]? = some (.bool x.mark) := by
  unfold wdC
  rw [List.getElem?_append_right (by rw [bvals_len, h.l]; omega), bvals_len, h.l, List.getElem?_append_right (by rw [bvals_len, h.n]; omega), bvals_len, h.n]
  rfl
theorem splB_ok {t q : List Nat} {a : Nat} (h : a + q.length ≤ t.length) (ht : ∀ v ∈ t, v < 256) (hq : ∀ v ∈ q, v < 256) : ∀ v ∈ splB t a q, v < 256 := fun v hv => by
  unfold splB at hv
  rw [List.mem_append, List.mem_append] at hv
  rcases hv with h1 | h1 | h1
  · exact ht v (List.mem_of_mem_take h1)
  · exact hq v h1
  · exact ht v (List.mem_of_mem_drop h1)
/-- what a store makes of a word, what an act of Tamper does, a flush, a fence, and what a crash makes of it -/
def Wd.st (x : Wd) (f : Nat) (q : List Nat) : Wd := ⟨x.lasts, splB x.now f q, true, false⟩
def Wd.tam (x : Wd) (f : Nat) (q : List Nat) : Wd := ⟨splB x.lasts f q, splB x.now f q, x.pend, x.mark⟩
def Wd.fl (x : Wd) : Wd := ⟨x.lasts, x.now, x.pend, x.pend⟩
def Wd.keep (x : Wd) : Wd := ⟨x.now, x.now, false, false⟩
def Wd.lose (x : Wd) : Wd := ⟨x.lasts, x.lasts, false, false⟩
def Wd.fe (x : Wd) : Wd := if x.mark then x.keep else x
theorem Wd.Ok.st {x : Wd} (h : x.Ok) {f : Nat} {q : List Nat} (hf : f + q.length ≤ 8) (hq : ∀ v ∈ q, v < 256) : (x.st f q).Ok :=
  ⟨h.l, (splB_len (by rw [h.n]; exact hf)).trans h.n, h.lb, splB_ok (by rw [h.n]; exact hf) h.nb hq⟩
theorem Wd.Ok.tam {x : Wd} (h : x.Ok) {f : Nat} {q : List Nat} (hf : f + q.length ≤ 8) (hq : ∀ v ∈ q, v < 256) : (x.tam f q).Ok :=
  ⟨(splB_len (by rw [h.l]; exact hf)).trans h.l, (splB_len (by rw [h.n]; exact hf)).trans h.n, splB_ok (by rw [h.l]; exact hf) h.lb hq, splB_ok (by rw [h.n]; exact hf) h.nb hq⟩
theorem Wd.Ok.fl {x : Wd} (h : x.Ok) : x.fl.Ok := ⟨h.l, h.n, h.lb, h.nb⟩
theorem Wd.Ok.keep {x : Wd} (h : x.Ok) : x.keep.Ok := ⟨h.n, h.n, h.nb, h.nb⟩
theorem Wd.Ok.lose {x : Wd} (h : x.Ok) : x.lose.Ok := ⟨h.l, h.l, h.lb, h.lb⟩
theorem Wd.Ok.fe {x : Wd} (h : x.Ok) : x.fe.Ok := by
  unfold Wd.fe
  split
  · exact h.keep
  · exact h
theorem bvals_spl (t q : List Nat) (a : Nat) : bvals (splB t a q) = splice (bvals t) a (bvals q) := by
  unfold bvals splB splice
  rw [List.map_append, List.map_append, List.map_take, List.map_drop, List.length_map]
/-- a store, in the words of stored (NvX) -/
theorem encM_st {ws : List Wd} (hok : OkM ws) {j : Nat} {x : Wd} (hj : ws[j]? = some x) {f : Nat} {q : List Nat} (hf : f + q.length ≤ 8) :
    splice (((encM ws).set (18 * j + 16) (.bool true)).set (18 * j + 17) (.bool false)) (18 * j + 8 + f) (bvals q) = encM (ws.set j (x.st f q)) := by
  have hx := hok x (wd_mem hj)
  have hlt := wd_lt hj
  have h1 : (encM ws).set (18 * j + 16) (.bool true) = encM (ws.set j ⟨x.lasts, x.now, true, x.mark⟩) := encM_put hok hj 16 _ (by omega) (by
    unfold wdC
    rw [List.set_append_right _ _ (by rw [bvals_len, hx.l]; omega), bvals_len, hx.l, List.set_append_right _ _ (by rw [bvals_len, hx.n]; omega), bvals_len, hx.n]
    rfl)
  have ok1 : OkM (ws.set j ⟨x.lasts, x.now, true, x.mark⟩) := hok.set j ⟨hx.l, hx.n, hx.lb, hx.nb⟩
  have j1 : (ws.set j (⟨x.lasts, x.now, true, x.mark⟩ : Wd))[j]? = some ⟨x.lasts, x.now, true, x.mark⟩ := List.getElem?_set_self hlt
  have h2 : (encM (ws.set j ⟨x.lasts, x.now, true, x.mark⟩)).set (18 * j + 17) (.bool false) = encM ((ws.set j ⟨x.lasts, x.now, true, x.mark⟩).set j ⟨x.lasts, x.now, true, false⟩) := encM_put ok1 j1 17 _ (by omega) (by
    unfold wdC
    rw [List.set_append_right _ _ (by rw [bvals_len, hx.l]; omega), bvals_len, hx.l, List.set_append_right _ _ (by rw [bvals_len, hx.n]; omega), bvals_len, hx.n]
    rfl)
  rw [h1, h2, List.set_set]
  have ok2 : OkM (ws.set j ⟨x.lasts, x.now, true, false⟩) := hok.set j ⟨hx.l, hx.n, hx.lb, hx.nb⟩
  have j2 : (ws.set j (⟨x.lasts, x.now, true, false⟩ : Wd))[j]? = some ⟨x.lasts, x.now, true, false⟩ := List.getElem?_set_self hlt
  have hl2 : (bvals q).length = q.length := bvals_len q
  rw [show 18 * j + 8 + f = 18 * j + (8 + f) by omega, encM_splice ok2 j2 (y := x.st f q) (8 + f) (bvals q) (by omega) (by
    have := splice_app (bvals x.lasts) (bvals x.now) [.bool true, .bool false] (bvals q) f (by rw [hl2, bvals_len, hx.n]; omega)
    rw [bvals_len, hx.l] at this
    unfold wdC
    rw [this, ← bvals_spl]
    rfl), List.set_set]
/-- what Tamper does, in the words of tampered (NvX) -/
theorem encM_tam {ws : List Wd} (hok : OkM ws) {j : Nat} {x : Wd} (hj : ws[j]? = some x) {f : Nat} {q : List Nat} (hf : f + q.length ≤ 8) (hq : ∀ v ∈ q, v < 256) :
    splice (splice (encM ws) (18 * j + f) (bvals q)) (18 * j + 8 + f) (bvals q) = encM (ws.set j (x.tam f q)) := by
  have hx := hok x (wd_mem hj)
  have hlt := wd_lt hj
  have hl2 : (bvals q).length = q.length := bvals_len q
  have h1 : splice (encM ws) (18 * j + f) (bvals q) = encM (ws.set j ⟨splB x.lasts f q, x.now, x.pend, x.mark⟩) := encM_splice hok hj f (bvals q) (by omega) (by
    have := splice_app [] (bvals x.lasts) (bvals x.now ++ [.bool x.pend, .bool x.mark]) (bvals q) f (by rw [hl2, bvals_len, hx.l]; omega)
    simp only [List.nil_append, List.length_nil, Nat.zero_add] at this
    unfold wdC
    rw [this, ← bvals_spl])
  have ok1 : OkM (ws.set j ⟨splB x.lasts f q, x.now, x.pend, x.mark⟩) := hok.set j ⟨(splB_len (by rw [hx.l]; exact hf)).trans hx.l, hx.n, splB_ok (by rw [hx.l]; exact hf) hx.lb hq, hx.nb⟩
  have j1 : (ws.set j (⟨splB x.lasts f q, x.now, x.pend, x.mark⟩ : Wd))[j]? = some ⟨splB x.lasts f q, x.now, x.pend, x.mark⟩ := List.getElem?_set_self hlt
  rw [h1, show 18 * j + 8 + f = 18 * j + (8 + f) by omega, encM_splice ok1 j1 (y := x.tam f q) (8 + f) (bvals q) (by omega) (by
    have := splice_app (bvals (splB x.lasts f q)) (bvals x.now) [.bool x.pend, .bool x.mark] (bvals q) f (by rw [hl2, bvals_len, hx.n]; omega)
    rw [bvals_len, splB_len (by rw [hx.l]; exact hf), hx.l] at this
    unfold wdC
    rw [this, ← bvals_spl]
    rfl), List.set_set]
/-- a flush of a word -/
theorem encM_fl {ws : List Wd} (hok : OkM ws) {j : Nat} {x : Wd} (hj : ws[j]? = some x) : (encM ws).set (18 * j + 17) (.bool x.pend) = encM (ws.set j x.fl) :=
  encM_put hok hj 17 _ (by omega) (by
    have hx := hok x (wd_mem hj)
    unfold wdC
    rw [List.set_append_right _ _ (by rw [bvals_len, hx.l]; omega), bvals_len, hx.l, List.set_append_right _ _ (by rw [bvals_len, hx.n]; omega), bvals_len, hx.n]
    rfl)
/-- the block b holds these words -/
def MemB (W : World) (b : Nat) (t : TypeId) (ws : List Wd) : Prop := OkM ws ∧ W.heap[b]? = some (.cells (encM ws).toArray t (0, 0))
theorem blk_setL {w : World} {g : Nat} {cur : List Value} {t : TypeId} (h : w.heap[g]? = some (.cells cur.toArray t (0, 0))) (i : Nat) (u : Value) : (w.setCell ⟨g, i, none⟩ u).heap[g]? = some (.cells (cur.set i u).toArray t (0, 0)) := by
  have := blk_set h i u
  simpa using this
theorem splice_cons {α : Type} (v : α) (r cur : List α) (o : Nat) (h : o + (r.length + 1) ≤ cur.length) : splice (cur.set o v) (o + 1) r = splice cur o (v :: r) := by
  unfold splice
  rw [List.length_cons, show o + 1 + r.length = o + (r.length + 1) by omega, List.drop_set_of_lt (by omega)]
  have e : (cur.set o v).take (o + 1) = cur.take o ++ [v] := by
    have hl : (cur.take o).length = o := by rw [List.length_take]; omega
    have := List.take_length_add_append (l₁ := cur.take o) (l₂ := v :: cur.drop (o + 1)) 1
    rw [hl] at this
    rw [List.set_eq_take_append_cons_drop, if_pos (by omega), this]
    rfl
  rw [e]
  simp [List.append_assoc]
theorem blk_setCells {g : Nat} {t : TypeId} : ∀ (vs : List Value) (o : Nat) (cur : List Value) (w : World), w.heap[g]? = some (.cells cur.toArray t (0, 0)) → o + vs.length ≤ cur.length → (w.setCells g o vs).heap[g]? = some (.cells (splice cur o vs).toArray t (0, 0))
  | [], o, cur, w, h, _ => by
    rw [show splice cur o [] = cur by unfold splice; simp]
    exact h
  | v :: r, o, cur, w, h, hl => by
    rw [World.setCells, ← splice_cons v r cur o (by simpa using hl)]
    exact blk_setCells r (o + 1) (cur.set o v) _ (blk_setL h o v) (by rw [List.length_set]; simp only [List.length_cons] at hl; omega)
section
variable {W W' : World} {b : Nat} {t : TypeId} {ws : List Wd}
theorem MemB.lt (h : MemB W b t ws) : b < W.heap.size := blk_lt h.2
theorem MemB.same (h : MemB W b t ws) (e : W'.heap[b]? = W.heap[b]?) : MemB W' b t ws := ⟨h.1, e.trans h.2⟩
theorem MemB.drew (h : MemB W b t ws) : MemB W.drew b t ws := h
theorem MemB.free (h : MemB W b t ws) (i : Nat) : W.frozen? ⟨b, i, none⟩ = false := blk_free h.2 i
theorem MemB.cell (h : MemB W b t ws) {j : Nat} {x : Wd} (hj : ws[j]? = some x) (i : Nat) (hi : i < 18) : W.cell? ⟨b, 18 * j + i, none⟩ = (wdC x)[i]? := by
  rw [blk_cell h.2, List.getElem?_toArray]
  exact encM_cell h.1 hj i hi
theorem MemB.last (h : MemB W b t ws) {j : Nat} {x : Wd} (hj : ws[j]? = some x) (i : Nat) (hi : i < 8) : W.cell? ⟨b, 18 * j + i, none⟩ = some (.int .u8 ((x.lasts.getD i 0 : Nat) : Int)) :=
  (h.cell hj i (by omega)).trans (wdC_last (h.1 x (wd_mem hj)) i hi)
theorem MemB.now (h : MemB W b t ws) {j : Nat} {x : Wd} (hj : ws[j]? = some x) (i : Nat) (hi : i < 8) : W.cell? ⟨b, 18 * j + 8 + i, none⟩ = some (.int .u8 ((x.now.getD i 0 : Nat) : Int)) := by
  rw [show 18 * j + 8 + i = 18 * j + (8 + i) by omega]
  exact (h.cell hj (8 + i) (by omega)).trans (wdC_now (h.1 x (wd_mem hj)) i hi)
theorem MemB.pend (h : MemB W b t ws) {j : Nat} {x : Wd} (hj : ws[j]? = some x) : W.cell? ⟨b, 18 * j + 16, none⟩ = some (.bool x.pend) := (h.cell hj 16 (by omega)).trans (wdC_pend (h.1 x (wd_mem hj)))
theorem MemB.mark (h : MemB W b t ws) {j : Nat} {x : Wd} (hj : ws[j]? = some x) : W.cell? ⟨b, 18 * j + 17, none⟩ = some (.bool x.mark) := (h.cell hj 17 (by omega)).trans (wdC_mark (h.1 x (wd_mem hj)))
theorem MemB.there (h : MemB W b t ws) {j : Nat} {x : Wd} (hj : ws[j]? = some x) : W.there b (18 * j) 18 := fun i hi => ⟨by
  rw [h.cell hj i hi, List.getElem?_eq_getElem (by rw [wdC_len (h.1 x (wd_mem hj))]; exact hi)]; rfl, h.free _⟩
theorem MemB.fl (h : MemB W b t ws) {j : Nat} {x : Wd} (hj : ws[j]? = some x) : MemB (W.setCell ⟨b, 18 * j + 17, none⟩ (.bool x.pend)) b t (ws.set j x.fl) :=
  ⟨h.1.set j (h.1 x (wd_mem hj)).fl, by rw [← encM_fl h.1 hj]; exact blk_setL h.2 _ _⟩
/-- a word is stored as a whole -/
theorem MemB.all (h : MemB W b t ws) {j : Nat} {x y : Wd} (hj : ws[j]? = some x) (hy : y.Ok) : MemB (W.setCells b (18 * j) (wdC y)) b t (ws.set j y) := by
  refine ⟨h.1.set j hy, ?_⟩
  rw [← encM_all h.1 hj hy]
  exact blk_setCells _ _ _ _ h.2 (by rw [encM_len h.1, wdC_len hy]; have := wd_lt hj; omega)
end
end Go.Proofs.Ythigknolpdohoaa
