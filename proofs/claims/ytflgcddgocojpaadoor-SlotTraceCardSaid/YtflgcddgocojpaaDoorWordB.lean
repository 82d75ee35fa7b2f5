/-
  What the document's own Put, Turned and Get answer, and word's Get; the example; bytes that are not too many.
-/
import Derived.Test.YtflgcddgocojpaaDoorWordA
import Derived.OwnWalk
namespace Go.Proofs.YtflgcddgocojpaaDoor
open Go.RowKit
set_option linter.unusedVariables false
def bvals (l : List Nat) : List Value := l.map fun x => Value.int .u8 ((x : Nat) : Int)
/-- a slice of the call's own, from block B on, that reads as l -/
def Own (w : World) (B : Nat) (v : Value) (l : List Nat) : Prop := w.ownsRow B 5 1 v l.length (bvals l)
theorem Own.nil (w : World) (B : Nat) : Own w B (.slice none 0 0) [] := World.ownsRow_nil _ _ _ _
theorem Own.bs {w : World} {B : Nat} {v : Value} {l : List Nat} (h : Own w B v l) (h2 : ∀ i, l.getD i 0 < 256) : ∃ A c, v = .slice A l.length c ∧ BS w w.heap.size A l.length c l := BS.of_own h h2
theorem wp_app {ops : Array Oper} {rest : List Oper} {o : Oper} {a : Act} {Q : Exit → Act → World → Prop} (W : World) (hgd : o.guard = none) (s x : Operand)
    (ho : o.op = .call { callee := .builtin .append, args := #[s, x], argTypes := #[23, 23] })
    (B : Nat) (v : Value) (l : List Nat) (z : Int) (b : Nat) (hs : a.eval s = v) (hown : Own W B v l)
    (hx : a.eval x = .slice (some ⟨W.heap.size, 0, none⟩) 1 1) (hz : z = (b : Int)) (hn : l.length < 1000000000) (hB : B ≤ W.heap.size)
    (h : ∀ v' w', Own w' B v' (l ++ [b]) → Below B W w' → wpList Tryd.prog ops Q rest (a.put o.dst v') w') :
    wpList Tryd.prog ops Q (o :: rest) a (W.alloc (.cells #[.int .u8 z] 5)) := by
  obtain ⟨i0, hi, hz0, hz1, hz2⟩ := info_parts info_u8
  subst hz
  refine wpList_append_own _ hgd s x 23 ho B 5 i0 (.int .u8 0) 1 1 Tryd.underlying23 hi hz0 hz1 hz2 rfl (by decide) v l.length (bvals l) hs (World.ownsRow.alloc hown _) ⟨W.heap.size, 0, none⟩ 1 1
    [.int .u8 (b : Int)] hx rfl ?_ ?_ (by unfold maxLen; omega) (by omega) (by simp; omega) ?_
  · intro j u hj
    match j, hj with
    | 0, hj => simp at hj; subst hj; simp [Addr.add]
  · intro u hu; simp at hu; subst hu; rfl
  · intro v' w1 hown' hg _
    refine h v' w1 ?_ ?_
    · have e : bvals (l ++ [b]) = bvals l ++ [.int .u8 (b : Int)] := by simp [bvals]
      unfold Own
      rw [e, List.length_append]
      exact hown'
    · exact ((Below.refl B W).alloc hB _).grown hg (by simp; omega) (fun k hk => (World.ownsRow.lt hown k hk).1)
def RefPutRel (w : World) (V n : Nat) (v i x : Value) (wr : World) : Prop :=
  ∃ k : Nat, i = .int .i64 (k : Int) ∧ x = .int .u64 ((V / 256 ^ k : Nat) : Int) ∧ k ≤ n ∧ Own wr w.heap.size v (putL k V) ∧ Below w.heap.size w wr
set_option maxHeartbeats 400000 in
theorem refPut_yes (n v : Nat) (h1 : 1 ≤ n) (h8 : n ≤ 8) (hv : v < 2 ^ 64) (w : World) :
    Calls Tryd.prog 41 #[.int .i64 (n : Int), .int .u64 (v : Int)] w (Gives w (putL n v)) := by
  go_enter Tryd.func41, Tryd.ntmps41
  go_wp2
  go_loopw [5, 6, 1] (fun b i x wr => RefPutRel w v n b i x wr) (fun _ i _ _ => (n - intOf i).toNat)
  case atStart => exact ⟨0, rfl, by simp, by omega, Own.nil _ _, Below.refl _ _⟩
  case round =>
    obtain ⟨k, rfl, rfl, hk, hown, hb⟩ := hrel
    by_cases hlt : k < n
    · have hq : v / 256 ^ k < 2 ^ 64 := Nat.lt_of_le_of_lt (Nat.div_le_self _ _) hv
      have hlen := putL_len k v
      have hB := hb.size
      generalize hQ : v / 256 ^ k = q at *
      have HQ := Lib.hid hQ
      have HL := Lib.hid hlen
      have hln : (putL k v).length ≤ 8 := by omega
      clear hQ hlen
      go_wp2_with (at_builtin; refine wp_app _ rfl _ _ rfl _ _ _ _ (q % 256) rfl hown rfl (by omega) (by omega) hB ?_; intro v' w1 hown1 hb1)
      go_roundw
      case rel =>
        refine ⟨k + 1, rfl, ?_, by omega, ?_, hb.trans hb1⟩
        · rw [Nat.pow_succ, ← Nat.div_div_eq_div_mul, HQ.out]; rfl
        · rw [putL_succ, HQ.out]; exact hown1
      case measure => simp [intOf]; omega
    · obtain rfl : k = n := by omega
      have HG : Gives w (putL k v) (.returned u5) wr := by
        obtain ⟨A, c, rfl, hbs⟩ := hown.bs (putL_byte k v)
        exact ⟨A, c, rfl, hb, hbs⟩
      have H := Lib.hid HG
      clear HG hown
      go_wp2
      go_ret
      exact H.out
set_option maxHeartbeats 400000 in
theorem refPut_no (n : Int) (v : Nat) (h : n < 1 ∨ 8 < n) (w : World) :
    Calls Tryd.prog 41 #[.int .i64 n, .int .u64 (v : Int)] w (Gives w []) := by
  have HG : Gives w [] (.returned (.slice none 0 0)) w := ⟨none, 0, rfl, Below.refl _ _, BS.nil _ _⟩
  have H := Lib.hid HG
  clear HG
  rcases h with h | h
  all_goals
    go_enter Tryd.func41, Tryd.ntmps41
    go_wp2
    go_loop [5, 6, 1] (fun b i x => b = .slice none 0 0 ∧ i = .int .i64 0 ∧ x = .int .u64 (v : Int)) (fun _ _ _ => 0)
    case atStart => exact ⟨rfl, rfl, rfl⟩
    case round =>
      obtain ⟨rfl, rfl, rfl⟩ := hrel
      go_wp2
      go_ret
      exact H.out
theorem refPut_any (n : Int) (v : Nat) (hv : v < 2 ^ 64) (w : World) : Calls Tryd.prog 41 #[.int .i64 n, .int .u64 (v : Int)] w (Gives w (putI n v)) := by
  by_cases h : 1 ≤ n ∧ n ≤ 8
  · obtain ⟨m, rfl⟩ : ∃ m : Nat, n = (m : Int) := ⟨n.toNat, by omega⟩
    have e : putI (m : Int) v = putL m v := by unfold putI; rw [if_pos h]; rfl
    rw [e]
    exact refPut_yes m v (by omega) (by omega) hv w
  · have e : putI n v = [] := by unfold putI; rw [if_neg h]
    rw [e]
    exact refPut_no n v (by omega) w

/-- the last ones first: so many from the end -/
theorem turned_step {l : List Nat} {k : Nat} (hk : k < l.length) : (l.drop (l.length - k)).reverse ++ [l.getD (l.length - 1 - k) 0] = (l.drop (l.length - (k + 1))).reverse := by
  have e : l.length - (k + 1) = l.length - 1 - k := by omega
  rw [e, drop_getD l (l.length - 1 - k) (by omega), List.reverse_cons]
  have e2 : l.length - 1 - k + 1 = l.length - k := by omega
  rw [e2]
def TurnedRel (w : World) (l : List Nat) (v i : Value) (wr : World) : Prop :=
  ∃ k : Nat, i = .int .i64 ((l.length : Int) - 1 - (k : Int)) ∧ k ≤ l.length ∧ Own wr w.heap.size v (l.drop (l.length - k)).reverse ∧ Below w.heap.size w wr
theorem or_byte {m x j : Nat} (hm : m < 2 ^ 64) (hx : x < 256) (hj : j < 8) :
    bits BinOp.or IntKind.u64 (m : Int) (IntKind.u64.wrap ((x : Int) * 2 ^ (8 * j))) = ((m ||| x * 2 ^ (8 * j) : Nat) : Int) := by
  have h1 : 2 ^ (8 * j) ≤ 2 ^ 56 := Nat.pow_le_pow_right (by omega) (by omega)
  have h2 : x * 2 ^ (8 * j) ≤ 255 * 2 ^ 56 := Nat.mul_le_mul (by omega) h1
  have h3 : ((x * 2 ^ (8 * j) : Nat) : Int) = (x : Int) * 2 ^ (8 * j) := by rw [Int.natCast_mul]; simp
  rw [← h3]
  generalize x * 2 ^ (8 * j) = y at *
  rw [wraps_u64 _ (by omega) (by omega), or64 hm (by omega)]
def NumRel (w : World) (g : Nat) (l : List Nat) (v k : Value) (wr : World) : Prop :=
  ∃ j : Nat, v = .int .u64 ((num (l.take j) : Nat) : Int) ∧ k = .int .i64 (j : Int) ∧ j ≤ l.length ∧ w.grownBy wr (some g) ∧ wr.heap[g]? = some (.cells #[.int .i64 (j : Int)] 86 (0, 0))
set_option maxHeartbeats 400000 in
theorem number_any (A : Option Addr) (n c B g : Nat) (l : List Nat) (w : World) (hs : BS w B A n c l) (hn : n ≤ 8) (hBg : B ≤ g) (hg : w.heap[g]? = some (.cells #[.int .i64 0] 86 (0, 0))) :
    Calls Tryd.prog 51 #[.slice A n c, .func (Fn.func 50) #[.pointer (some ⟨g, 0, none⟩)] #[]] w
      fun e w' => e = .returned (.int .u64 ((num l : Nat) : Int)) ∧ w.grownBy w' (some g) := by
  have hlen := hs.len
  have hcap := hs.cap
  have hgw := blk_lt hg
  go_enter Tryd.func51, Tryd.ntmps51
  subst hlen
  have HG0 := Lib.hid hg
  clear hg
  go_wp2
  go_loopw [5, 10] (fun v k wr => NumRel w g l v k wr) (fun _ k _ => (l.length - intOf k).toNat)
  case atStart => exact ⟨0, rfl, rfl, by omega, World.grownBy.refl w _, HG0.out⟩
  case round =>
    obtain ⟨j, rfl, rfl, hj, hb, hc1⟩ := hrel
    by_cases hlt : j < l.length
    · obtain ⟨b, o, rfl, hbB, hcell⟩ := hs.at_ (by omega)
      have hc : wr.cell? ⟨b, o + j, none⟩ = some (.int .u8 ((l.getD j 0 : Nat) : Int)) :=
        (World.cell?_of_block (hb.block b (by omega) (fun e => by injection e with e; omega))).trans (hcell j hlt)
      have hby := hs.byte j
      have h1 : wr.cell? ⟨g, 0, none⟩ = some (.int .i64 (j : Int)) := by simpa using blk_cell hc1 0
      have h2 := blk_free hc1 0
      have h3 := blk_set hc1 0 (.int .i64 ((j : Int) + 1))
      have h4 := only_set (p := ⟨g, 0, none⟩) hb (.inl rfl) (.int .i64 ((j : Int) + 1))
      have HS := Lib.hid hs
      have hm : num (l.take j) < 2 ^ 64 := by
        have k1 := num_lt (l := l.take j) (take_byte hs.byte j)
        have k2 : (l.take j).length ≤ 8 := by rw [List.length_take]; omega
        have k3 : 256 ^ (l.take j).length ≤ 256 ^ 8 := Nat.pow_le_pow_right (by omega) k2
        omega
      have HO := Lib.hid (num_or hs.byte hlt)
      have H3 := Lib.hid h3
      clear hs hcell hc1 h3 hb
      generalize l.getD j 0 = x at *
      generalize num (l.take j) = m at *
      go_wp2_with fail
      refine (up_any g j (by omega) _ h1 h2).mono ?_
      rintro e w1 ⟨rfl, hw1⟩
      have h5 : w.grownBy w1 (some g) := hw1 ▸ h4
      have H6 := Lib.hid (hw1 ▸ H3.out)
      clear h4 h1 h2 hc hw1
      go_wp2
      go_roundw
      case rel => exact ⟨j + 1, by rw [or_byte hm hby (by omega), HO.out], rfl, by omega, h5, by simpa using H6.out⟩
      case measure => simp [intOf]; omega
    · obtain rfl : j = l.length := by omega
      have H := Lib.hid (congrArg num (List.take_length (l := l)))
      clear hs hc1
      go_wp2
      go_ret
      exact ⟨ret_int (by rw [H.out]), hb⟩

theorem get_bel {w w' : World} {o : Obj} (hb : (w.alloc o).grownBy w' (some w.heap.size)) : Below w.heap.size w w' :=
  below_only ((Below.refl _ _).alloc (Nat.le_refl _) o) (Nat.le_refl _) (by simp) hb
set_option maxHeartbeats 400000 in
theorem get_any (A : Option Addr) (n c : Nat) (l : List Nat) (w : World) (hs : BS w w.heap.size A n c l) :
    Calls Tryd.prog 48 #[.slice A n c] w fun e w' => e = .returned (.int .u64 ((num (l.take 8) : Nat) : Int)) ∧ Below w.heap.size w w' := by
  have hz : ∀ w : World, (zeroValue 86).run Tryd.prog w = .ok (.agg #[.int .i64 0]) w := fun _ => by kernel_rfl
  have hlen := hs.len
  have hcap := hs.cap
  have hsa : ∀ o, BS (w.alloc o) w.heap.size A n c l := fun o => hs.below ((Below.refl _ w).alloc (Nat.le_refl _) o)
  by_cases h8 : n ≤ 8
  · have e : l.take 8 = l := List.take_of_length_le (by omega)
    have HE := Lib.hid e
    have HS := Lib.hid hsa
    clear e hs hsa hlen
    go_enter Tryd.func48, Tryd.ntmps48
    go_wp2_with fail
    refine (number_any A n c w.heap.size _ l _ (HS.out _) h8 (Nat.le_refl _) (heap_alloc_new w _)).mono ?_
    rintro e w' ⟨rfl, hb⟩
    have H := Lib.hid (get_bel hb)
    clear hb
    go_wp2
    go_ret
    exact ⟨ret_int (by rw [HE.out]), H.out⟩
  · have ht : ∀ o, BS (w.alloc o) w.heap.size A 8 c (l.take 8) := fun o => (hsa o).take (by omega)
    have HS := Lib.hid ht
    clear hs hsa hlen ht
    go_enter Tryd.func48, Tryd.ntmps48
    go_wp2_with fail
    refine (number_any A 8 c w.heap.size _ (l.take 8) _ (HS.out _) (by omega) (Nat.le_refl _) (heap_alloc_new w _)).mono ?_
    rintro e w' ⟨rfl, hb⟩
    have H := Lib.hid (get_bel hb)
    clear hb
    go_wp2
    go_ret
    exact ⟨rfl, H.out⟩
theorem num_step {l : List Nat} (h : ∀ i, l.getD i 0 < 256) (hl : l.length ≤ 8) {k : Nat} (hk : k < l.length) :
    num (l.drop (l.length - k)) * 256 + l.getD (l.length - 1 - k) 0 = num (l.drop (l.length - (k + 1))) ∧ num (l.drop (l.length - k)) * 256 + l.getD (l.length - 1 - k) 0 < 2 ^ 64 := by
  have e : l.length - (k + 1) = l.length - 1 - k := by omega
  have e2 : l.length - 1 - k + 1 = l.length - k := by omega
  have h1 : num (l.drop (l.length - 1 - k)) = num (l.drop (l.length - k)) * 256 + l.getD (l.length - 1 - k) 0 := by
    rw [drop_getD l (l.length - 1 - k) (by omega), num, e2]
  refine ⟨by rw [e, h1], ?_⟩
  rw [← h1]
  have hd : ∀ i, (l.drop (l.length - 1 - k)).getD i 0 < 256 := fun i => by
    have := h (l.length - 1 - k + i)
    simpa [List.getD, List.getElem?_drop] using this
  have k1 := num_lt hd
  have k2 : (l.drop (l.length - 1 - k)).length ≤ 8 := by rw [List.length_drop]; omega
  have k3 : 256 ^ (l.drop (l.length - 1 - k)).length ≤ 256 ^ 8 := Nat.pow_le_pow_right (by omega) k2
  omega
def RefGetRel (l : List Nat) (v i : Value) : Prop :=
  ∃ k : Nat, v = .int .u64 ((num (l.drop (l.length - k)) : Nat) : Int) ∧ i = .int .i64 ((l.length : Int) - 1 - (k : Int)) ∧ k ≤ l.length
set_option maxHeartbeats 400000 in
theorem refGet_small (A : Option Addr) (n c : Nat) (l : List Nat) (w : World) (B : Nat) (hs : BS w B A n c l) (h8 : n ≤ 8) :
    Calls Tryd.prog 22 #[.slice A n c] w fun e w' => e = .returned (.int .u64 ((num l : Nat) : Int)) ∧ w = w' := by
  have hlen := hs.len
  have hcap := hs.cap
  subst hlen
  have HS := Lib.hid hs
  clear hs
  go_enter Tryd.func22, Tryd.ntmps22
  go_wp2
  go_loop [3, 4] (fun v i => RefGetRel l v i) (fun _ i => (intOf i + 1).toNat)
  case atStart => exact ⟨0, by simp [num], by simp, by omega⟩
  case round =>
    obtain ⟨k, rfl, rfl, hk⟩ := hrel
    by_cases hlt : k < l.length
    · obtain ⟨b, o, rfl, hbB, hcell⟩ := HS.out.at_ (by omega)
      have hc := hcell (l.length - 1 - k) (by omega)
      have hby := HS.out.byte (l.length - 1 - k)
      obtain ⟨hn1, hn2⟩ := num_step HS.out.byte h8 hlt
      have HN := Lib.hid hn1
      clear hcell hn1
      generalize l.getD (l.length - 1 - k) 0 = x at *
      generalize num (l.drop (l.length - k)) = m at *
      go_wp2
      go_round
      case rel => exact ⟨k + 1, by rw [← HN.out]; rfl, by congr 1; omega, by omega⟩
      case measure => simp [intOf]; omega
    · obtain rfl : k = l.length := by omega
      go_wp2
      go_ret
      exact ⟨rfl, rfl⟩
set_option maxHeartbeats 400000 in
theorem refGet_big (A : Option Addr) (n c : Nat) (l : List Nat) (w : World) (B : Nat) (hs : BS w B A 8 c l) (h8 : 8 < n) (hn : n ≤ c) :
    Calls Tryd.prog 22 #[.slice A n c] w fun e w' => e = .returned (.int .u64 ((num l : Nat) : Int)) ∧ w = w' := by
  have hlen := hs.len
  have hcap := hs.cap
  have hl8 : l.length ≤ 8 := by omega
  have HS := Lib.hid hs
  have HL := Lib.hid hlen
  clear hs hlen
  go_enter Tryd.func22, Tryd.ntmps22
  go_wp2
  go_loop [3, 4] (fun v i => RefGetRel l v i) (fun _ i => (intOf i + 1).toNat)
  case atStart => exact ⟨0, by simp [num], by rw [HL.out]; rfl, by omega⟩
  case round =>
    obtain ⟨k, rfl, rfl, hk⟩ := hrel
    have hle : 8 ≤ l.length := by have := HL.out; omega
    by_cases hlt : k < l.length
    · obtain ⟨b, o, rfl, hbB, hcell⟩ := HS.out.at_ (by omega)
      have hc := hcell (l.length - 1 - k) (by omega)
      have hby := HS.out.byte (l.length - 1 - k)
      obtain ⟨hn1, hn2⟩ := num_step HS.out.byte hl8 hlt
      have HN := Lib.hid hn1
      clear hcell hn1
      generalize l.getD (l.length - 1 - k) 0 = x at *
      generalize num (l.drop (l.length - k)) = m at *
      go_wp2
      go_round
      case rel => exact ⟨k + 1, by rw [← HN.out]; rfl, by congr 1; omega, by omega⟩
      case measure => simp [intOf]; omega
    · obtain rfl : k = l.length := by omega
      go_wp2
      go_ret
      exact ⟨rfl, rfl⟩
theorem refGet_any (A : Option Addr) (n c : Nat) (l : List Nat) (w : World) (B : Nat) (hs : BS w B A n c l) :
    Calls Tryd.prog 22 #[.slice A n c] w fun e w' => e = .returned (.int .u64 ((num (l.take 8) : Nat) : Int)) ∧ w = w' := by
  by_cases h8 : n ≤ 8
  · have e : l.take 8 = l := List.take_of_length_le (by have := hs.len; omega)
    rw [e]
    exact refGet_small A n c l w B hs h8
  · exact refGet_big A n c (l.take 8) w B (hs.take (by omega)) (by omega) hs.cap.1
def ShortTo (w : World) (A : Option Addr) (c : Nat) (l : List Nat) (e : Ending) (w' : World) : Prop :=
  e = .returned (.slice A (l.take 80).length c) ∧ BS w w.heap.size A (l.take 80).length c (l.take 80) ∧ w = w'
theorem conv_at {w : World} {B n c : Nat} {A : Option Addr} {l : List Nat} (h : BS w B A n c l) : (convert 23 9 (.slice A n c)).run Tryd.prog w = .ok (.string (str l)) w :=
  h.conv _ 5 _ Tryd.underlying23 Tryd.underlying5 Tryd.underlying9
def GivesStr (w : World) (n : Nat) (s : ByteArray) (e : Ending) (w' : World) : Prop :=
  ∃ A c, e = .returned (.slice A n c) ∧ Below w.heap.size w w' ∧ (convert 23 9 (.slice A n c)).run Tryd.prog w' = .ok (.string s) w'
theorem Gives.str {w w' : World} {l : List Nat} {e : Ending} (h : Gives w l e w') {n : Nat} {s : ByteArray} (hn : l.length = n) (hs : str l = s) : GivesStr w n s e w' := by
  obtain ⟨A, c, rfl, hb, hx⟩ := h
  subst hn hs
  exact ⟨A, c, rfl, hb, conv_at hx⟩
theorem put_awake (w : World) : Calls Tryd.prog 47 #[.int .i64 2, .int .u64 258] w (GivesStr w 2 ⟨#[2, 1]⟩) :=
  (put_any 2 258 (by omega) w).mono fun _ _ h => h.str (by decide) (by decide)
end Go.Proofs.YtflgcddgocojpaaDoor
