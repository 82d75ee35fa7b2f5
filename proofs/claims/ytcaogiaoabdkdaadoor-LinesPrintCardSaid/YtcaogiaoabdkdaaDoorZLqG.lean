/-
  Joined: Turn, LqF, LqG.
-/
import Derived.Test.YtcaogiaoabdkdaaDoorZHeldF
import Derived.Test.YtcaogiaoabdkdaaDoorZCel
import Derived.WalkKit
import Derived.Below
import Derived.Test.YtcaogiaoabdkdaaDoorZLqE
import Derived.Test.YtcaogiaoabdkdaaDoorZLnP
namespace Go.Proofs.YtcaogiaoabdkdaaDoor
set_option maxRecDepth 100000
section
open Go.RowKit Go
set_option linter.unusedVariables false
set_option linter.unusedSimpArgs false
/-- of what was there only blocks of S have turned -/
structure Turns (S : Nat → Prop) (W W' : World) : Prop where
  os : W'.os = W.os
  tape : W'.tape = W.tape
  output : W'.output = W.output
  size : W.heap.size ≤ W'.heap.size
  block : ∀ k, k < W.heap.size → ¬ S k → W'.heap[k]? = W.heap[k]?
section
variable {S S' : Nat → Prop} {W W1 W2 : World}
theorem Turns.trans (h : Turns S W W1) (k : Turns S' W1 W2) (hs : ∀ j, j < W.heap.size → S' j → S j) : Turns S W W2 :=
  ⟨k.os.trans h.os, k.tape.trans h.tape, k.output.trans h.output, Nat.le_trans h.size k.size, fun j hj hn => (k.block j (Nat.lt_of_lt_of_le hj h.size) (fun q => hn (hs j hj q))).trans (h.block j hj hn)⟩
theorem Turns.of_below (h : Below W.heap.size W W1) : Turns S W W1 := ⟨h.os, h.tape, h.output, h.size, fun j hj _ => h.block j hj⟩
theorem Turns.of_grown {row : Option Nat} (h : W.grownBy W1 row) (hr : ∀ j, row = some j → S j) : Turns S W W1 := ⟨h.os, h.tape, h.output, h.size, fun j hj hn => h.block j hj (fun e => hn (hr j e.symm))⟩
theorem Turns.set (p : Addr) (u : Value) (hp : S p.block) : Turns S W (W.setCell p u) := ⟨rfl, rfl, rfl, by simp [World.setCell], fun j hj hn => Below.heap_setCell _ _ _ _ (fun e => hn (by rw [e]; exact hp))⟩
theorem Turns.below {B : Nat} (h : Turns S W W1) (hB : B ≤ W.heap.size) (hs : ∀ j, S j → B ≤ j) : Below B W W1 := ⟨h.os, h.tape, h.output, h.size, fun j hj => h.block j (by omega) (fun q => by have := hs j q; omega)⟩
theorem Turns.mono (h : Turns S' W W1) (hs : ∀ j, j < W.heap.size → S' j → S j) : Turns S W W1 := ⟨h.os, h.tape, h.output, h.size, fun j hj hn => h.block j hj (fun q => hn (hs j hj q))⟩
end
theorem os_setCells (b : Nat) : ∀ (vs : List Value) (o : Nat) (w : World), (w.setCells b o vs).os = w.os
  | [], _, _ => rfl
  | v :: r, o, w => by rw [World.setCells, os_setCells b r]; rfl
theorem tape_setCells (b : Nat) : ∀ (vs : List Value) (o : Nat) (w : World), (w.setCells b o vs).tape = w.tape
  | [], _, _ => rfl
  | v :: r, o, w => by rw [World.setCells, tape_setCells b r]; rfl
theorem output_setCells (b : Nat) : ∀ (vs : List Value) (o : Nat) (w : World), (w.setCells b o vs).output = w.output
  | [], _, _ => rfl
  | v :: r, o, w => by rw [World.setCells, output_setCells b r]; rfl
end
section
open Go.RowKit Go Go.Shelf
set_option linter.unusedVariables false
set_option linter.unusedSimpArgs false
set_option maxRecDepth 1000000
set_option maxHeartbeats 1000000
theorem isBl_iff (c : Nat) : isBl c = true ↔ c = 32 ∨ c = 9 := by unfold isBl; exact decide_eq_true_iff
theorem spl_blank (s : List Nat) : ∀ (u : List Nat) (b : Nat), isBl b = true → splW u (s ++ [b]) = splW u s := by
  induction s with
  | nil =>
    intro u b hb
    rw [List.nil_append, splW_cons, if_pos ((isBl_iff b).1 hb)]
    by_cases h : u = []
    · rw [if_pos h, h]
    · rw [if_neg h, show splW u [] = [u] from by rw [splW, if_neg h]]; rfl
  | cons a s ih =>
    intro u b hb
    rw [List.cons_append, splW, splW]
    split
    · split
      · exact ih [] b hb
      · rw [ih [] b hb]
    · exact ih (u ++ [a]) b hb
theorem spl_trimR (n : Nat) : ∀ v : List Nat, v.length = n → splW [] (trimR v) = splW [] v := by
  induction n with
  | zero => intro v hv; rw [List.eq_nil_of_length_eq_zero hv]; rfl
  | succ n ih =>
    intro v hv
    rcases snoc_cases v with rfl | ⟨r, x, rfl⟩
    · rfl
    · rw [trimR_snoc]
      split
      · rename_i hx
        rw [ih r (by simpa using hv), spl_blank r [] x hx]
      · rfl
theorem spl_dropB (v : List Nat) : splW [] (dropB v) = splW [] v := by
  induction v with
  | nil => rfl
  | cons a v ih =>
    rw [dropB_cons]
    split
    · rename_i hx
      rw [ih, splW, if_pos ((isBl_iff a).1 hx), if_pos rfl]
    · rfl
/-- no blank ahead -/
def HdN (u : List Nat) : Prop := ∀ c r, u = c :: r → isBl c = false
theorem hd_dropB (v : List Nat) : HdN (dropB v) := by
  induction v with
  | nil => intro c r h; cases h
  | cons a v ih =>
    rw [dropB_cons]
    split
    · exact ih
    · rename_i hx
      intro c r h
      injection h with h1 h2
      subst h1
      cases e : isBl a
      · rfl
      · exact absurd e hx
theorem idxB_cons (c : Nat) (l : List Nat) : idxB (c :: l) = if isBl c = true then 0 else if idxB l = -1 then -1 else idxB l + 1 := by rw [idxB]
/-- where a word ends -/
def wEnd (u : List Nat) : Nat := if idxB u = -1 then u.length else (idxB u).toNat
theorem wEnd_le (u : List Nat) : wEnd u ≤ u.length := by
  have := idxB_ge u
  unfold wEnd
  split <;> omega
theorem wEnd_cons {c : Nat} {l : List Nat} (h : isBl c = false) : wEnd (c :: l) = wEnd l + 1 := by
  have := idxB_ge l
  have hi : idxB (c :: l) = if idxB l = -1 then -1 else idxB l + 1 := by rw [idxB_cons, h]; rfl
  unfold wEnd
  by_cases e : idxB l = -1
  · rw [if_pos e] at hi
    rw [hi, if_pos rfl, if_pos e]; rfl
  · rw [if_neg e] at hi
    rw [hi, if_neg (by omega), if_neg e]; omega
theorem spl_word (l : List Nat) : ∀ u : List Nat, u ++ l ≠ [] → (u = [] → HdN l) → splW u l = (u ++ l.take (wEnd l)) :: splW [] (l.drop (wEnd l)) := by
  induction l with
  | nil =>
    intro u hu _
    rw [List.append_nil] at hu
    rw [splW, if_neg hu]; simp [splW]
  | cons c l ih =>
    intro u hu hh
    cases hb : isBl c
    · have hc : ¬ (c = 32 ∨ c = 9) := fun h => by rw [(isBl_iff c).2 h] at hb; cases hb
      rw [splW, if_neg hc, ih (u ++ [c]) (by simp) (fun e => by simp at e), wEnd_cons hb]
      simp
    · have hu2 : u ≠ [] := fun e => by have := hh e c l rfl; rw [hb] at this; cases this
      have h0 : wEnd (c :: l) = 0 := by unfold wEnd; rw [idxB_cons, if_pos hb]; rfl
      rw [h0, splW, if_pos ((isBl_iff c).1 hb), if_neg hu2]
      simp only [List.take_zero, List.append_nil, List.drop_zero]
      rw [splW, if_pos ((isBl_iff c).1 hb), if_pos rfl]
theorem cutAt_cons (x c : Nat) (l : List Nat) : cutAt x (c :: l) = if c = x then [] else c :: cutAt x l := by
  have := idx_ge x l
  unfold cutAt
  rw [idxL]
  by_cases e : c = x
  · rw [if_pos e, if_pos e, if_neg (by omega)]; rfl
  · rw [if_neg e, if_neg e]
    by_cases h : idxL x l = -1
    · rw [if_pos h, if_pos rfl, if_pos h]
    · rw [if_neg h, if_neg (by omega), if_neg h, show (idxL x l + 1).toNat = (idxL x l).toNat + 1 by omega, List.take_succ_cons]
theorem cutAt_cutH (s : List Nat) : cutAt 35 s = cutH s := by
  induction s with
  | nil => rfl
  | cons c s ih =>
    rw [cutAt_cons, ih]
    unfold cutH
    rw [List.takeWhile_cons]
    by_cases e : c = 35 <;> simp [e]
/-- block g holds what is left of a line: its words are ws -/
def WdB (W : World) (g : Nat) (ws : List (List Nat)) : Prop := ∃ u, W.heap[g]? = some (.cells #[.string (str u)] 85 (0, 0)) ∧ HdN u ∧ (∀ c ∈ u, c < 256) ∧ u.length ≤ 1000000 ∧ splW [] u = ws
def WoOf (w : World) (s : List Nat) (e : Ending) (w' : World) : Prop := ∃ g, e = .returned (.pointer (some ⟨g, 0, none⟩)) ∧ w.heap.size ≤ g ∧ WdB w' g (wordsL s) ∧ Below w.heap.size w w'
theorem wordsOf_any (s : List Nat) (hm : ∀ c ∈ s, c < 256) (hn : s.length ≤ 1000000) (w : World) :
    Calls Tryd.prog 27 #[.string (str s)] w (WoOf w s) := by
  have HC := Lib.hid (cut_any31 s (getD_lt256 hm) hm hn 35 (by omega) w)
  rw [show str [35] = (⟨#[35]⟩ : ByteArray) from by kernel_rfl] at HC
  have hcm : ∀ c ∈ cutAt 35 s, c < 256 := fun c h => hm c (by rw [cutAt_cutH] at h; exact cutH_mem h)
  have hcl : (cutAt 35 s).length ≤ s.length := by rw [cutAt_cutH]; exact cutH_len s
  have HT := Lib.hid (fun W => trim_any31 (cutAt 35 s) hcm (by omega) W)
  have HF : Hid (∀ W, Below w.heap.size w W → WoOf w s (.returned (.pointer (some ⟨W.heap.size, 0, none⟩))) (W.alloc (.cells #[.string (str (dropB (trimR (cutAt 35 s))))] 85))) := Lib.hid (fun W h =>
    ⟨W.heap.size, rfl, h.size, ⟨_, heap_alloc_new W _, hd_dropB _, fun c hc => hcm c (trimR_sub _ c (dropB_sub _ c hc)), Nat.le_trans (dropB_len _) (Nat.le_trans (trimR_len _) (by omega)), by
      rw [spl_dropB, spl_trimR _ _ rfl, cutAt_cutH]; rfl⟩, h.alloc h.size _⟩)
  generalize str s = S at *
  generalize str (cutAt 35 s) = S1 at *
  generalize str (cutBe 35 s) = S2 at *
  generalize str (dropB (trimR (cutAt 35 s))) = S3 at *
  generalize (decide (idxL 35 s ≠ -1)) = B at *
  clear hcm hcl hm hn
  go_enter Tryd.func27, Tryd.ntmps27
  go_wp2_with fail
  refine HC.out.mono ?_
  rintro e w1 ⟨rfl, hb1⟩
  have HB1 := Lib.hid hb1
  clear hb1
  go_wp2_with fail
  refine (HT.out w1).mono ?_
  rintro e w2 ⟨rfl, hb2⟩
  have HB2 := Lib.hid (HB1.out.trans (hb2.mono HB1.out.size))
  clear hb2
  have HG := Lib.hid (HF.out w2 HB2.out)
  go_wp2_with fail
  go_ret
  exact HG.out
/-- the next word is told, and the others are left -/
def NextTo (w : World) (g : Nat) (ws : List (List Nat)) (e : Ending) (w' : World) : Prop := e = .returned (.string (str (ws.headD []))) ∧ WdB w' g ws.tail ∧ Turns (fun k => k = g) w w'
theorem next31_any (g : Nat) (ws : List (List Nat)) (w : World) (h : WdB w g ws) :
    Calls Tryd.prog 30 #[.pointer (some ⟨g, 0, none⟩)] w (NextTo w g ws) := by
  obtain ⟨u, hx, hh, hm, hn, hs⟩ := h
  have hlt := blk_lt hx
  have HI := Lib.hid (indexAny_any u hm hn w)
  have HW : Hid (str (ws.headD []) = str (u.take (wEnd u)) ∧ splW [] (dropB (u.drop (wEnd u))) = ws.tail) := Lib.hid (by
    rw [spl_dropB, ← hs]
    by_cases e : u = []
    · subst e; exact ⟨rfl, rfl⟩
    · have := spl_word u [] (by simpa using e) (fun _ => hh)
      rw [this]; exact ⟨rfl, rfl⟩)
  have hge := idxB_ge u
  have hwe := wEnd_le u
  have HWE : Hid (wEnd u = if idxB u = -1 then u.length else (idxB u).toNat) := Lib.hid rfl
  have hdm : ∀ c ∈ u.drop (wEnd u), c < 256 := fun c hc => hm c (List.mem_of_mem_drop hc)
  have HTL := Lib.hid (fun W => trimL_any (u.drop (wEnd u)) hdm (by simp; omega) W)
  have hsz := str_size u
  have HS1 := Lib.hid (fun W => sub_to (l := u) (k := .i64) (j := wEnd u) hwe W)
  have HS2 := Lib.hid (fun W => sub_from (l := u) (k := .i64) (j := wEnd u) hwe W)
  have HX := Lib.hid hx
  have HLT := Lib.hid hlt
  have HF : Hid (∀ W, Below w.heap.size w W → NextTo w g ws (.returned (.string (str (u.take (wEnd u))))) (W.setCell ⟨g, 0, none⟩ (.string (str (dropB (u.drop (wEnd u))))))) := Lib.hid (fun W hb =>
    ⟨by rw [HW.out.1], ⟨_, blk_set ((hb.block g hlt).trans hx) 0 _, hd_dropB _, fun c hc => hdm c (dropB_sub _ c hc), Nat.le_trans (dropB_len _) (by simp; omega), HW.out.2⟩, (Turns.of_below hb).trans (Turns.set (S := fun k => k = g) ⟨g, 0, none⟩ _ rfl) (fun j _ h => h)⟩)
  clear hx hlt hh hs hdm
  generalize wEnd u = en at *
  generalize hU : str u = U at *
  generalize str (u.take en) = U1 at *
  generalize str (u.drop en) = U2 at *
  generalize str (dropB (u.drop en)) = U3 at *
  clear hU
  have p0 : w.cell? ⟨g, 0, none⟩ = some (.string U) := blk_cell HX.out 0
  go_enter Tryd.func30, Tryd.ntmps30
  go_wp2_with fail
  refine HI.out.mono ?_
  rintro e w1 ⟨rfl, hb1⟩
  have HB1 := Lib.hid hb1
  have HX1 := Lib.hid ((hb1.block g HLT.out).trans HX.out)
  have HLT1 := Lib.hid (Nat.lt_of_lt_of_le HLT.out hb1.size)
  clear hb1 p0
  have p1 : w1.cell? ⟨g, 0, none⟩ = some (.string U) := blk_cell HX1.out 0
  have s1 := HS1.out w1
  have s2 := HS2.out w1
  have hen : (en : Int) ≤ (u.length : Int) := by omega
  by_cases hi : idxB u = -1
  · rw [hi]
    have he : (u.length : Int) = (en : Int) := by rw [HWE.out, if_pos hi]
    have hsz2 : (U.size : Int) = (en : Int) := by rw [hsz]; exact he
    clear hge hi hwe hsz he hen hn hm
    go_wp2_with fail
    refine (HTL.out _).mono ?_
    rintro e w2 ⟨rfl, hb2⟩
    have HB2 := Lib.hid (HB1.out.trans (hb2.mono HB1.out.size))
    have HX2 := Lib.hid ((hb2.block g HLT1.out).trans HX1.out)
    have p2 : w2.cell? ⟨g, 0, none⟩ = some (.string U) := blk_cell HX2.out 0
    have f2 := blk_free HX2.out 0
    have HG := Lib.hid (HF.out w2 HB2.out)
    clear hb2
    go_wp2_with fail
    go_ret
    exact HG.out
  · have he : idxB u = (en : Int) := by rw [HWE.out, if_neg hi]; omega
    rw [he]
    clear hge hi hwe hsz he hen hn hm
    go_wp2_with fail
    refine (HTL.out _).mono ?_
    rintro e w2 ⟨rfl, hb2⟩
    have HB2 := Lib.hid (HB1.out.trans (hb2.mono HB1.out.size))
    have HX2 := Lib.hid ((hb2.block g HLT1.out).trans HX1.out)
    have p2 : w2.cell? ⟨g, 0, none⟩ = some (.string U) := blk_cell HX2.out 0
    have f2 := blk_free HX2.out 0
    have HG := Lib.hid (HF.out w2 HB2.out)
    clear hb2
    go_wp2_with fail
    go_ret
    exact HG.out
end
section
open Go.RowKit Go Go.Shelf
set_option linter.unusedVariables false
set_option linter.unusedSimpArgs false
set_option maxRecDepth 1000000
set_option maxHeartbeats 1000000
def knV : Array Value := #[.string ⟨#[102, 111, 114, 109, 97, 116]⟩, .string ⟨#[]⟩, .string ⟨#[111, 112, 101, 110]⟩, .string ⟨#[77]⟩, .string ⟨#[99, 108, 111, 115, 101]⟩, .string ⟨#[]⟩, .string ⟨#[98, 101, 103, 105, 110]⟩, .string ⟨#[]⟩, .string ⟨#[99, 111, 109, 109, 105, 116]⟩, .string ⟨#[]⟩, .string ⟨#[97, 98, 111, 114, 116]⟩, .string ⟨#[]⟩, .string ⟨#[97, 108, 108, 111, 99]⟩, .string ⟨#[78]⟩, .string ⟨#[102, 114, 101, 101]⟩, .string ⟨#[87]⟩, .string ⟨#[114, 101, 97, 108, 108, 111, 99]⟩, .string ⟨#[87, 78]⟩, .string ⟨#[119, 114, 105, 116, 101]⟩, .string ⟨#[87, 65, 66]⟩, .string ⟨#[114, 101, 97, 100]⟩, .string ⟨#[87, 65, 78]⟩, .string ⟨#[115, 101, 116]⟩, .string ⟨#[75, 84]⟩, .string ⟨#[114, 111, 111, 116]⟩, .string ⟨#[75]⟩, .string ⟨#[115, 105, 122, 101]⟩, .string ⟨#[87]⟩, .string ⟨#[115, 116, 97, 116]⟩, .string ⟨#[]⟩, .string ⟨#[99, 104, 101, 99, 107]⟩, .string ⟨#[]⟩, .string ⟨#[99, 114, 97, 115, 104]⟩, .string ⟨#[66]⟩, .string ⟨#[97, 114, 109]⟩, .string ⟨#[78, 66]⟩, .string ⟨#[116, 97, 109, 112, 101, 114]⟩, .string ⟨#[65, 66]⟩, .string ⟨#[111, 110]⟩, .string ⟨#[]⟩]
/-- a sign of the document's as one of the program's -/
def sgnP (c : Nat) : Nat := if c = 119 then 87 else if c = 107 then 75 else if c = 110 then 78 else if c = 97 then 65 else if c = 98 then 66 else if c = 111 then 77 else 84
def hasL (k : Nat) : List Nat := (ordL k).map sgnP
theorem knV_name : ∀ k, k < 20 → knV[2 * k]? = some (.string (str (namesL.getD k []))) := by
  intro k hk
  match k, hk with
  | 0, _ => first | rfl | kernel_rfl
  | 1, _ => first | rfl | kernel_rfl
  | 2, _ => first | rfl | kernel_rfl
  | 3, _ => first | rfl | kernel_rfl
  | 4, _ => first | rfl | kernel_rfl
  | 5, _ => first | rfl | kernel_rfl
  | 6, _ => first | rfl | kernel_rfl
  | 7, _ => first | rfl | kernel_rfl
  | 8, _ => first | rfl | kernel_rfl
  | 9, _ => first | rfl | kernel_rfl
  | 10, _ => first | rfl | kernel_rfl
  | 11, _ => first | rfl | kernel_rfl
  | 12, _ => first | rfl | kernel_rfl
  | 13, _ => first | rfl | kernel_rfl
  | 14, _ => first | rfl | kernel_rfl
  | 15, _ => first | rfl | kernel_rfl
  | 16, _ => first | rfl | kernel_rfl
  | 17, _ => first | rfl | kernel_rfl
  | 18, _ => first | rfl | kernel_rfl
  | 19, _ => first | rfl | kernel_rfl
  | k + 20, h => exact absurd h (by omega)
theorem knV_has : ∀ k, k < 20 → knV[2 * k + 1]? = some (.string (str (hasL k))) := by
  intro k hk
  match k, hk with
  | 0, _ => first | rfl | kernel_rfl
  | 1, _ => first | rfl | kernel_rfl
  | 2, _ => first | rfl | kernel_rfl
  | 3, _ => first | rfl | kernel_rfl
  | 4, _ => first | rfl | kernel_rfl
  | 5, _ => first | rfl | kernel_rfl
  | 6, _ => first | rfl | kernel_rfl
  | 7, _ => first | rfl | kernel_rfl
  | 8, _ => first | rfl | kernel_rfl
  | 9, _ => first | rfl | kernel_rfl
  | 10, _ => first | rfl | kernel_rfl
  | 11, _ => first | rfl | kernel_rfl
  | 12, _ => first | rfl | kernel_rfl
  | 13, _ => first | rfl | kernel_rfl
  | 14, _ => first | rfl | kernel_rfl
  | 15, _ => first | rfl | kernel_rfl
  | 16, _ => first | rfl | kernel_rfl
  | 17, _ => first | rfl | kernel_rfl
  | 18, _ => first | rfl | kernel_rfl
  | 19, _ => first | rfl | kernel_rfl
  | k + 20, h => exact absurd h (by omega)
theorem knV_size : knV.size = 40 := by kernel_rfl
/-- the kinds' variable holds what the text lays -/
def Kn (W : World) : Prop := ∃ (t : TypeId) (m : Nat × Nat), W.heap[0]? = some (.cells knV t m)
theorem Kn.pos {W : World} (h : Kn W) : 0 < W.heap.size := by
  obtain ⟨t, m, h⟩ := h
  exact (Array.getElem?_eq_some_iff.1 h).1
theorem Kn.turn {W w : World} {S : Nat → Prop} (h : Kn W) (hb : Turns S W w) (hs : ¬ S 0) : Kn w := by
  have := h.pos
  obtain ⟨t, m, h1⟩ := h
  exact ⟨t, m, (hb.block 0 this hs).trans h1⟩
theorem Kn.below {W w : World} (h : Kn W) (hb : Below W.heap.size W w) : Kn w := h.turn (Turns.of_below (S := fun _ => False) hb) (fun h => h)
theorem Kn.drop {W w : World} {B : Nat} (h : Kn W) (hb : Below B W w) (hB : 0 < B) : Kn w := by
  obtain ⟨t, m, h1⟩ := h
  exact ⟨t, m, (hb.block 0 hB).trans h1⟩
theorem Kn.has {W : World} (h : Kn W) {k : Nat} (hk : k < 20) : W.cell? ⟨0, 2 * k + 1, none⟩ = some (.string (str (hasL k))) := by
  obtain ⟨t, m, h1⟩ := h
  rw [cell_of_row W 0 (2 * k + 1) knV t m h1, knV_has k hk]
/-- an element of two cells of an array by value -/
theorem run_index_arr2 {P : Program} (t e : TypeId) (n : Nat) (cs : Array Value) (m : Nat) (x y : Value) (w : World) (h : P.underlying t = some (.array n e)) (he : ∀ w, (isAgg e).run P w = .ok true w) (hs : ∀ w, (Go.sizeOf e).run P w = .ok 2 w) (hm : m < n) (hx : cs[2 * m]? = some x) (hy : cs[2 * m + 1]? = some y) :
    (Instr.index t (.agg cs) (.int .i64 (m : Int))).run P w = .ok (.agg #[x, y]) w := by
  have hn : 0 ≤ (m : Int) ∧ (m : Int) < (n : Int) := by omega
  have hc : cs.extract (m * 2) (m * 2 + 2) = #[x, y] := by
    have hl : 2 * m + 1 < cs.size := (Array.getElem?_eq_some_iff.1 hy).1
    apply Array.ext
    · simp; omega
    · intro i h1 h2
      simp at h2
      rw [Array.getElem_extract]
      match i, h2 with
      | 0, _ =>
        have := (Array.getElem?_eq_some_iff.1 hx).2
        simpa [Nat.mul_comm] using this
      | 1, _ =>
        have := (Array.getElem?_eq_some_iff.1 hy).2
        simpa [Nat.mul_comm] using this
  simp [Instr.index, run_underlying h, asIntOf, go_sem, hs]
  rw [if_pos hm]
  simp [part, go_sem, he, hs, hc]
theorem kind_find {wd : List Nat} {k : Nat} (hk : k < 20) (h : namesL.getD k [] = wd) : kindW wd = some k := by rw [← h]; exact kind_name k hk
theorem kind_no {wd : List Nat} (h : ∀ k, k < 20 → namesL.getD k [] ≠ wd) : kindW wd = none := by
  unfold kindW
  rw [List.find?_eq_none]
  intro k hk
  have := h k (List.mem_range.1 hk)
  simpa using this
def NdTo (w : World) (wd : List Nat) (e : Ending) (w' : World) : Prop := Below w.heap.size w w' ∧ ((∃ k, k < 20 ∧ kindW wd = some k ∧ e = .returned (.tuple #[.int .i64 ((k : Nat) : Int), .bool true])) ∨ (kindW wd = none ∧ e = .returned (.tuple #[.int .i64 0, .bool false])))
theorem named_any (wd : List Nat) (hw : ∀ i, wd.getD i 0 < 256) (w : World) (hK : Kn w) :
    Calls Tryd.prog 45 #[.string (str wd)] w (NdTo w wd) := by
  have HEQ : Hid (∀ k, k < 20 → ((str (namesL.getD k [])).toList == (str wd).toList) = decide (namesL.getD k [] = wd)) := Lib.hid (fun k hk => str_toList (name_byte k hk) hw)
  obtain ⟨t0, m0, hk0⟩ := hK
  have HK0 := Lib.hid hk0
  have HI0 : Hid ((Tryd.prog.info? 75).map (·.size) = some knV.size) := Lib.hid (by rw [knV_size]; kernel_rfl)
  have HIX : Hid (∀ j : Nat, j < 20 → ∀ W, (Instr.index 75 (.agg knV) (.int .i64 (j : Int))).run Tryd.prog W = .ok (.agg #[.string (str (namesL.getD j [])), .string (str (hasL j))]) W) := Lib.hid (fun j hj W => run_index_arr2 _ _ _ _ _ _ _ _ Tryd.underlying75 (fun _ => by kernel_rfl) (fun _ => by kernel_rfl) hj (knV_name j hj) (knV_has j hj))
  have HB0 := Lib.hid (Below.refl w.heap.size w)
  have HNM : Hid (∀ j, j < 20 → namesL.getD j [] = wd → kindW wd = some j) := Lib.hid (fun j hj h => kind_find hj h)
  have HNO := Lib.hid (kind_no (wd := wd))
  clear hk0
  generalize knV = KV at *
  generalize hSW : str wd = SW at *
  clear hSW hw
  go_enter Tryd.func45, Tryd.ntmps45
  go_wp2_with (with_reducible refine wpList_load_row rfl 75 (.global 0) rfl 0 rfl t0 KV m0 _ HK0.out Tryd.underlying75 rfl HI0.out ?_)
  go_loopw [7] (fun iv wr => ∃ j : Nat, iv = .int .i64 (j : Int) ∧ j ≤ 20 ∧ (∀ k, k < j → namesL.getD k [] ≠ wd) ∧ Below w.heap.size w wr) (fun iv _ => (20 - RowKit.intOf iv).toNat)
  case atStart => exact ⟨0, rfl, Nat.zero_le _, fun k hk => by omega, HB0.out⟩
  case round =>
    obtain ⟨j, rfl, hj, hno, hb⟩ := hrel
    have HN := Lib.hid hno
    have HB := Lib.hid hb
    clear hno hb
    by_cases hlt : j < 20
    · have hix := HIX.out j hlt wr
      have hq := HEQ.out j hlt
      have HBA : Hid (Below w.heap.size w (wr.alloc (.cells #[.string (str (namesL.getD j [])), .string (str (hasL j))] 74))) := Lib.hid (HB.out.alloc HB.out.size _)
      by_cases he : namesL.getD j [] = wd
      · have hq2 : ((str (namesL.getD j [])).toList == SW.toList) = true := by rw [hq, decide_eq_true_eq]; exact he
        have HF : Hid (NdTo w wd (.returned (.tuple #[.int .i64 (j : Int), .bool true])) (wr.alloc (.cells #[.string (str (namesL.getD j [])), .string (str (hasL j))] 74))) := Lib.hid ⟨HBA.out, .inl ⟨j, hlt, HNM.out j hlt he, rfl⟩⟩
        clear hq he
        generalize str (namesL.getD j []) = S1 at *
        generalize str (hasL j) = S2 at *
        go_wp2_with fail
        go_ret2
        exact HF.out
      · have hq2 : ((str (namesL.getD j [])).toList == SW.toList) = false := by rw [hq, decide_eq_false_iff_not]; exact he
        have HF : Hid (∃ q : Nat, Value.int .i64 ((j : Int) + 1) = .int .i64 (q : Int) ∧ q ≤ 20 ∧ (∀ k, k < q → namesL.getD k [] ≠ wd) ∧ Below w.heap.size w (wr.alloc (.cells #[.string (str (namesL.getD j [])), .string (str (hasL j))] 74))) := Lib.hid ⟨j + 1, by simp, by omega, fun k hk => by
          by_cases e : k = j
          · rw [e]; exact he
          · exact HN.out k (by omega), HBA.out⟩
        clear hq he
        generalize str (namesL.getD j []) = S1 at *
        generalize str (hasL j) = S2 at *
        go_wp2_with fail
        go_roundw
        case rel => exact HF.out
        case measure => (simp [RowKit.intOf] <;> omega)
    · obtain rfl : j = 20 := by omega
      have HF : Hid (NdTo w wd (.returned (.tuple #[.int .i64 0, .bool false])) wr) := Lib.hid ⟨HB.out, .inr ⟨HNO.out HN.out, rfl⟩⟩
      go_wp2_with fail
      go_ret2
      exact HF.out
end
end Go.Proofs.YtcaogiaoabdkdaaDoor
