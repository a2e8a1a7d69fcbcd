/-
What lex's token returns.
Plain mathematics of layer 12, ninth part: the same tokens, so many further on, are read as the same trees, further on.
Plain mathematics of layer 11, third part: the tokens of what is left; and what lex's token returns, whatever stands ahead.
Plain mathematics of layer 12, eleventh part: the same tokens, so many further on: statements and functions; two texts as one.
-/
import Derived.Test.YtjfdcnggnldgdaaGreatDoorP07a
section
namespace Go.Proofs.YtjfdcnggnldgdaaGreatDoor
open Go.ChangeShapes Go.WideShapes Go.ChangeAt Go.RowKit Go.WideMaps Go.Maps
set_option linter.unusedVariables false
set_option linter.unusedSimpArgs false

theorem Lx.isEmpty (s : ByteArray) (h : 0 < s.size) : s.toList.isEmpty = false := by
  have h1 := Lx.notEmpty s
  cases hq : s.toList.isEmpty
  · rfl
  · rw [hq, decide_eq_true h] at h1; cases h1
theorem bel_new {w w' : World} {o : Obj} (h : Below (w.alloc o).heap.size (w.alloc o) w') : Below w.heap.size w w' := ((Below.refl _ w).alloc (Nat.le_refl _) o).trans (h.mono (by simp))
set_option maxHeartbeats 4000000 in
set_option maxRecDepth 100000 in
theorem token_none (b : Nat) (w : World) :
    Calls Tryz.prog 60 #[.string ⟨#[]⟩, .map (some b)] w fun e w' => e = .returned (.tuple #[.agg (tkA 0 0 0 ⟨#[]⟩), .bool false]) ∧ Below w.heap.size w w' := by
  have HB := Lib.hid (Blk.new w 77 (tkA 0 0 0 ⟨#[]⟩))
  go_enter Tryz.func60, Tryz.ntmps60
  go_wp2_with (first
    | ((with_reducible refine wpList_store_blk tokT HB.out (fitsT 0 0 0 ⟨#[]⟩) ?_ ?_); exact rfl))
  try simp only [Exit.inBlock, Exit.then]
  refine bp_blk2 tokT rfl rfl (HB.out.row (ds := tkA 0 0 0 ⟨#[]⟩) rfl) rfl ⟨rfl, below_setRow ((Below.refl _ _).alloc (Nat.le_refl _) _) (Nat.le_refl _) _⟩
set_option maxHeartbeats 4000000 in
set_option maxRecDepth 100000 in
theorem token_num (s : ByteArray) (hs : s.size ≤ 281474976710656) (h0 : 0 < s.size) (hd : Lx.digit (s[0]'h0) = true) (b : Nat) (w : World) :
    Calls Tryz.prog 60 #[.string s, .map (some b)] w fun e w' => (∃ n : Int, e = .returned (.tuple #[.agg (tkA 2 0 n ⟨#[]⟩), .bool (decide (0 ≤ Lx.num s.data.toList))]) ∧ (0 ≤ Lx.num s.data.toList → n = Lx.num s.data.toList)) ∧ Below w.heap.size w w' := by
  have HB := Lib.hid (Blk.new w 77 (tkA 0 0 0 ⟨#[]⟩))
  have hE := Lx.isEmpty s h0
  have C1 := Lib.hid fun w => digit_any (s[0]'h0) w
  rw [hd] at C1
  have C2 := Lib.hid fun w => number_any s hs w
  have h0' : (0 : Int) < (s.size : Int) := by omega
  generalize Lx.num s.data.toList = N at C2 ⊢
  clear hd
  go_enter Tryz.func60, Tryz.ntmps60
  go_wp2_with (first
    | (go_at_call 113; refine (C1.out _).mono ?_; rintro e w1 ⟨rfl, rfl⟩)
    | (go_at_call 115; refine (C2.out _).mono ?_; rintro e w2 ⟨⟨n, rfl, HN0⟩, hb2⟩; have HN := Lib.hid HN0; have HB2 := Lib.hid (HB.out.kept hb2); have HC := Lib.hid (bel_new hb2); clear HN0 hb2)
    | ((with_reducible refine wpList_store_blk tokT HB2.out (fitsT 2 0 n ⟨#[]⟩) ?_ ?_); exact rfl))
  try simp only [Exit.inBlock, Exit.then]
  refine bp_blk2 tokT rfl rfl (HB2.out.row (ds := tkA 2 0 n ⟨#[]⟩) rfl) rfl ⟨⟨n, rfl, HN.out⟩, below_setRow HC.out (Nat.le_refl _) _⟩
set_option maxHeartbeats 4000000 in
set_option maxRecDepth 100000 in
theorem token_sign (s : ByteArray) (hs : s.size ≤ 281474976710656) (h0 : 0 < s.size) (hd : Lx.digit (s[0]'h0) = false) (hl : Lx.letter (s[0]'h0) = false) (b : Nat) (w : World) :
    Calls Tryz.prog 60 #[.string s, .map (some b)] w fun e w' => e = .returned (.tuple #[.agg (tkA 4 0 0 s), .bool true]) ∧ Below w.heap.size w w' := by
  have HB := Lib.hid (Blk.new w 77 (tkA 0 0 0 ⟨#[]⟩))
  have hE := Lx.isEmpty s h0
  have C1 := Lib.hid fun w => digit_any (s[0]'h0) w
  rw [hd] at C1
  have C2 := Lib.hid fun w => letter_any (s[0]'h0) w
  rw [hl] at C2
  have C3 := Lib.hid fun w => clone_any s w hs
  have h0' : (0 : Int) < (s.size : Int) := by omega
  clear hd hl
  go_enter Tryz.func60, Tryz.ntmps60
  go_wp2_with (first
    | (go_at_call 113; refine (C1.out _).mono ?_; rintro e w1 ⟨rfl, rfl⟩)
    | (go_at_call 112; refine (C2.out _).mono ?_; rintro e w1 ⟨rfl, rfl⟩)
    | (go_at_call 116; refine (C3.out _).mono ?_; rintro e w2 ⟨rfl, hb2⟩; have HB2 := Lib.hid (HB.out.kept hb2); have HC := Lib.hid (bel_new hb2); clear hb2)
    | ((with_reducible refine wpList_store_blk tokT HB2.out (fitsT 4 0 0 s) ?_ ?_); exact rfl))
  try simp only [Exit.inBlock, Exit.then]
  refine bp_blk2 tokT rfl rfl (HB2.out.row (ds := tkA 4 0 0 s) rfl) rfl ⟨rfl, below_setRow HC.out (Nat.le_refl _) _⟩
set_option maxHeartbeats 4000000 in
set_option maxRecDepth 100000 in
theorem token_name (s : ByteArray) (hs : s.size ≤ 281474976710656) (h0 : 0 < s.size) (hd : Lx.digit (s[0]'h0) = false) (hl : Lx.letter (s[0]'h0) = true) (b : Nat) (w : World) (hk : KnownAt w b) :
    Calls Tryz.prog 60 #[.string s, .map (some b)] w fun e w' => e = .returned (.tuple #[.agg (tkA (if Lx.words.contains s.data.toList then 3 else 1) 0 0 s), .bool (decide (s.size ≤ 40))]) ∧ Below w.heap.size w w' := by
  have HB := Lib.hid (Blk.new w 77 (tkA 0 0 0 ⟨#[]⟩))
  have HK := Lib.hid (hk.kept ((Below.refl _ _).alloc (Nat.le_refl _) (.cells (tkA 0 0 0 ⟨#[]⟩) 77)))
  clear hk
  have hE := Lx.isEmpty s h0
  have C1 := Lib.hid fun w => digit_any (s[0]'h0) w
  rw [hd] at C1
  have C2 := Lib.hid fun w => letter_any (s[0]'h0) w
  rw [hl] at C2
  have C3 := Lib.hid fun w => clone_any s w hs
  have h0' : (0 : Int) < (s.size : Int) := by omega
  clear hd hl
  have hkey : keyOf Tryz.prog 9 (.string s) = some (.string s.data.toList) := keyOf_string_mk Tryz.underlying9 (by unfold maxLen; omega)
  have HHAS := Lib.hid (Lx.known_has s.data.toList)
  have HAT := Lib.hid (fun z => Lx.known_at s.data.toList z)
  have hdec : decide ((s.size : Int) ≤ 40) = decide (s.size ≤ 40) := decide_eq_decide.2 (by omega)
  have HD := Lib.hid hdec
  clear hdec
  cases hc : Lx.words.contains s.data.toList
  · rw [hc] at HHAS
    rw [if_neg (by decide)]
    clear HAT hc
    go_enter Tryz.func60, Tryz.ntmps60
    go_wp2_with (first
      | (go_at_call 113; refine (C1.out _).mono ?_; rintro e w1 ⟨rfl, rfl⟩)
      | (go_at_call 112; refine (C2.out _).mono ?_; rintro e w1 ⟨rfl, rfl⟩)
      | (at_lookup; refine wpList_lookup_own_ok_int _ rfl _ _ 114 rfl 9 3 .i64 lawS Tryz.underlying114 Tryz.underlying3 (zeroI _) b 19 _ rfl HK.out _ _ rfl hkey ?_; intro c hat hwc; rw [HHAS.out]; clear hat hwc)
      | (go_at_call 116; refine (C3.out _).mono ?_; rintro e w2 ⟨rfl, hb2⟩; have HB2 := Lib.hid (HB.out.kept hb2); have HC := Lib.hid (bel_new hb2); clear hb2)
      | ((with_reducible refine wpList_store_blk tokT HB2.out (fitsT 1 0 0 s) ?_ ?_); exact rfl))
    all_goals
      try simp only [Exit.inBlock, Exit.then]
      refine bp_blk2 tokT rfl rfl (HB2.out.row (ds := tkA 1 0 0 s) rfl) rfl ⟨?_, below_setRow HC.out (Nat.le_refl _) _⟩
      rw [← HD.out]; rfl
  · rw [hc] at HHAS
    have hat3 := HAT.out (.lit (.int .i64 0)) hc
    have HAT3 := Lib.hid hat3
    rw [if_pos rfl]
    clear HAT hc hat3
    go_enter Tryz.func60, Tryz.ntmps60
    go_wp2_with (first
      | (go_at_call 113; refine (C1.out _).mono ?_; rintro e w1 ⟨rfl, rfl⟩)
      | (go_at_call 112; refine (C2.out _).mono ?_; rintro e w1 ⟨rfl, rfl⟩)
      | (at_lookup; refine wpList_lookup_own_ok_int _ rfl _ _ 114 rfl 9 3 .i64 lawS Tryz.underlying114 Tryz.underlying3 (zeroI _) b 19 _ rfl HK.out _ _ rfl hkey ?_; intro c hat hwc; rw [HHAS.out]; have hc3 : c = 3 := (by have h9 := hat.symm.trans HAT3.out; injection h9 with h9; injection h9); subst hc3; clear hat hwc)
      | (go_at_call 116; refine (C3.out _).mono ?_; rintro e w2 ⟨rfl, hb2⟩; have HB2 := Lib.hid (HB.out.kept hb2); have HC := Lib.hid (bel_new hb2); clear hb2)
      | ((with_reducible refine wpList_store_blk tokT HB2.out (fitsT 3 0 0 s) ?_ ?_); exact rfl))
    all_goals
      try simp only [Exit.inBlock, Exit.then]
      refine bp_blk2 tokT rfl rfl (HB2.out.row (ds := tkA 3 0 0 s) rfl) rfl ⟨?_, below_setRow HC.out (Nat.le_refl _) _⟩
      rw [← HD.out]; rfl
end Go.Proofs.YtjfdcnggnldgdaaGreatDoor
end
section
set_option linter.unusedVariables false
set_option linter.unusedSimpArgs false
namespace Go.Proofs.YtjfdcnggnldgdaaGreatDoor

mutual
/-- an expression so much further on -/
def Sx.E.on (d : Nat) : Sx.E → Sx.E
  | .mk k p n s l => .mk k (p + d) n s (Sx.E.onL d l)
def Sx.E.onL (d : Nat) : List Sx.E → List Sx.E
  | [] => []
  | e :: l => Sx.E.on d e :: Sx.E.onL d l
end
theorem Sx.on_mk (d : Nat) (k p n : Int) (s : List UInt8) (l : List Sx.E) : Sx.E.on d (.mk k p n s l) = .mk k (p + d) n s (Sx.E.onL d l) := by rw [Sx.E.on]
theorem Sx.onL_nil (d : Nat) : Sx.E.onL d [] = [] := by rw [Sx.E.onL]
theorem Sx.onL_cons (d : Nat) (e : Sx.E) (l : List Sx.E) : Sx.E.onL d (e :: l) = Sx.E.on d e :: Sx.E.onL d l := by rw [Sx.E.onL]
section
variable {K J : List Lx.Tok} {m d : Nat}
def Sx.Pa.on (d : Nat) (x : Sx.Pa) : Sx.Pa := { x with pos := x.pos + d }
end
end Go.Proofs.YtjfdcnggnldgdaaGreatDoor
end
section
namespace Go.Proofs.YtjfdcnggnldgdaaGreatDoor
open Go.ChangeShapes Go.WideShapes Go.ChangeAt Go.RowKit Go.WideMaps Go.Maps
set_option linter.unusedVariables false
set_option linter.unusedSimpArgs false

theorem Lx.one_at (p : Nat) (l : List UInt8) : Lx.one p l = ((Lx.one 0 l).1.on p, (Lx.one 0 l).2) := by
  have h := Lx.one_on 0 p l
  rwa [Nat.zero_add] at h
/-- how many bytes the token ahead has -/
def Lx.cnt (u : List UInt8) : Nat := (Lx.one 0 u).2
theorem Lx.run_nil {c : UInt8} {r : List UInt8} (h : Lx.wordy c = false) : Lx.run (c :: r) = [] := by unfold Lx.run; rw [List.takeWhile_cons, h]; rfl
theorem Lx.run_take (l : List UInt8) : l.take (Lx.run l).length = Lx.run l := by
  have h : Lx.run l ++ l.dropWhile Lx.wordy = l := List.takeWhile_append_dropWhile
  have := List.take_left (l₁ := Lx.run l) (l₂ := l.dropWhile Lx.wordy)
  rwa [h] at this
theorem Lx.fst_take (u : List UInt8) : u.take (Lx.fst u).length = Lx.fst u := by
  unfold Lx.fst
  split
  · rw [List.length_take, Nat.min_eq_left (Lx.sign_le u)]
  · exact Lx.run_take u
theorem Lx.fst_le (u : List UInt8) : (Lx.fst u).length ≤ u.length := by
  rw [← Lx.fst_take u, List.length_take]; exact Nat.min_le_right _ _
theorem Lx.cnt_fst (c : UInt8) (r : List UInt8) (h : Lx.cnt (c :: r) ≠ 0) : Lx.cnt (c :: r) = (Lx.fst (c :: r)).length := by
  unfold Lx.cnt Lx.one at h ⊢
  simp only [] at h ⊢
  by_cases h1 : Lx.letter c = true
  · have hr := Lx.run_cons (c := c) (r := r) (by unfold Lx.wordy; rw [h1]; rfl)
    rw [if_pos h1] at h ⊢
    simp only [] at h ⊢
    unfold Lx.fst
    rw [if_neg (c := Lx.run (c :: r) = []) (by rw [hr]; simp)]
    split at h
    · rename_i h2; rw [if_pos h2]
    · exact absurd rfl h
  · rw [if_neg h1] at h ⊢
    by_cases h2 : Lx.digit c = true
    · have hr := Lx.run_cons (c := c) (r := r) (by unfold Lx.wordy; rw [h2, Bool.or_true])
      rw [if_pos h2] at h ⊢
      simp only [] at h ⊢
      unfold Lx.fst
      rw [if_neg (c := Lx.run (c :: r) = []) (by rw [hr]; simp)]
      split at h
      · rename_i h2; rw [if_pos h2]
      · exact absurd rfl h
    · have hr := Lx.run_nil (c := c) (r := r) (by unfold Lx.wordy; simp only [Bool.not_eq_true] at h1 h2; rw [h1, h2]; rfl)
      rw [if_neg h2] at h ⊢
      simp only [] at h ⊢
      unfold Lx.fst
      rw [if_pos hr, List.length_take, Nat.min_eq_left (Lx.sign_le _)]
/-- the tokens of what is left of a text of N bytes -/
def Lx.Tk (N : Nat) (m : List UInt8) : Except Nat (List Lx.Tok) := Lx.toks (m.length + 1) (N - m.length) m
theorem Lx.left_len (m : List UInt8) : (Lx.left m).length + Lx.skip false m = m.length := by
  unfold Lx.left; rw [List.length_drop]; have := Lx.skip_le false m; omega
theorem Lx.Tk_end (N : Nat) (m : List UInt8) (h : Lx.left m = []) : Lx.Tk N m = .ok [] := Lx.toks_end h
theorem Lx.Tk_bad (N : Nat) (m : List UInt8) (hm : m.length ≤ N) (h : Lx.left m ≠ []) (h0 : Lx.cnt (Lx.left m) = 0) : Lx.Tk N m = .error (N - (Lx.left m).length) := by
  have hl := Lx.left_len m
  unfold Lx.Tk
  rw [Lx.toks_bad rfl rfl h (by rw [Lx.one_at]; exact h0)]
  congr 1; omega
theorem Lx.Tk_good (N : Nat) (m : List UInt8) (hm : m.length ≤ N) (h : Lx.left m ≠ []) (h0 : Lx.cnt (Lx.left m) ≠ 0) :
    Lx.Tk N m = Lx.push ((Lx.one 0 (Lx.left m)).1.on (N - (Lx.left m).length)) (Lx.Tk N ((Lx.left m).drop (Lx.cnt (Lx.left m)))) := by
  have hl := Lx.left_len m
  have h1 := Lx.one_le 0 (Lx.left m)
  unfold Lx.Tk
  rw [Lx.toks_good rfl rfl h (by rw [Lx.one_at]; exact h0)]
  have he : N - m.length + Lx.skip false m = N - (Lx.left m).length := by omega
  rw [Lx.one_at, show m.drop (Lx.skip false m) = Lx.left m from rfl]
  simp only []
  rw [he]
  have hd : ((Lx.left m).drop (Lx.one 0 (Lx.left m)).2).length = (Lx.left m).length - (Lx.one 0 (Lx.left m)).2 := List.length_drop
  rw [Lx.toks_fuel m.length (((Lx.left m).drop (Lx.one 0 (Lx.left m)).2).length + 1) _ _ (by
    have : (Lx.one 0 (Lx.left m)).2 ≠ 0 := h0
    omega) (by omega)]
  congr 2
  show N - (Lx.left m).length + (Lx.one 0 (Lx.left m)).2 = N - ((Lx.left m).drop (Lx.one 0 (Lx.left m)).2).length
  omega
theorem Lx.join_step (done : List Lx.Tok) (x : Lx.Tok) (r : Except Nat (List Lx.Tok)) : Lx.join (.ok done) (Lx.push x r) = Lx.join (.ok (done ++ [x])) r := by
  cases r with
  | error q => rfl
  | ok us => simp [Lx.join, Lx.push]
set_option maxHeartbeats 1000000 in
theorem token_any (c : UInt8) (r : List UInt8) (hs : (c :: r).length ≤ 281474976710656) (b : Nat) (w : World) (hk : KnownAt w b) :
    Calls Tryz.prog 60 #[.string (Lx.S (Lx.fst (c :: r))), .map (some b)] w fun e w' => (∃ (k n : Int) (t : List UInt8), e = .returned (.tuple #[.agg (tkA k 0 n (Lx.S t)), .bool (decide (Lx.cnt (c :: r) ≠ 0))]) ∧ (Lx.cnt (c :: r) ≠ 0 → (Lx.one 0 (c :: r)).1 = ⟨k, 0, n, t⟩)) ∧ Below w.heap.size w w' := by
  have hfl := Lx.fst_le (c :: r)
  have hg : ∀ (t : List UInt8) (h : 0 < (Lx.S (c :: t)).size), (Lx.S (c :: t))[0]'h = c := fun t h => rfl
  by_cases h1 : Lx.letter c = true
  · have hr := Lx.run_cons (c := c) (r := r) (by unfold Lx.wordy; rw [h1]; rfl)
    have hd : Lx.digit c = false := by
      cases hd : Lx.digit c
      · rfl
      · unfold Lx.letter Lx.digit at *; simp at h1 hd; omega
    have hf : Lx.fst (c :: r) = c :: Lx.run r := by unfold Lx.fst; rw [if_neg (by rw [hr]; simp), hr]
    have h0 : 0 < (Lx.S (c :: Lx.run r)).size := by rw [Lx.S_size]; simp
    rw [hf] at hfl ⊢
    refine (token_name (Lx.S (c :: Lx.run r)) (by rw [Lx.S_size]; omega) h0 (by rw [hg]; exact hd) (by rw [hg]; exact h1) b w hk).mono ?_
    rintro e w' ⟨rfl, hb⟩
    rw [Lx.S_list, Lx.S_size]
    have hc : Lx.cnt (c :: r) = if (c :: Lx.run r).length ≤ 40 then (c :: Lx.run r).length else 0 := by unfold Lx.cnt Lx.one; simp only [if_pos h1, hr]
    have ho : (Lx.one 0 (c :: r)).1 = ⟨if Lx.words.contains (c :: Lx.run r) then 3 else 1, 0, 0, c :: Lx.run r⟩ := by unfold Lx.one; simp only [if_pos h1, hr]
    have hq : decide (Lx.cnt (c :: r) ≠ 0) = decide ((c :: Lx.run r).length ≤ 40) := by
      rw [hc]
      by_cases h5 : (c :: Lx.run r).length ≤ 40
      · rw [if_pos h5, decide_eq_true h5]; rfl
      · rw [if_neg h5, decide_eq_false h5]; rfl
    exact ⟨⟨_, _, c :: Lx.run r, by rw [hq], fun _ => ho⟩, hb⟩
  · by_cases h2 : Lx.digit c = true
    · have hr := Lx.run_cons (c := c) (r := r) (by unfold Lx.wordy; rw [h2, Bool.or_true])
      have hf : Lx.fst (c :: r) = c :: Lx.run r := by unfold Lx.fst; rw [if_neg (by rw [hr]; simp), hr]
      have h0 : 0 < (Lx.S (c :: Lx.run r)).size := by rw [Lx.S_size]; simp
      rw [hf] at hfl ⊢
      refine (token_num (Lx.S (c :: Lx.run r)) (by rw [Lx.S_size]; omega) h0 (by rw [hg]; exact h2) b w).mono ?_
      rintro e w' ⟨⟨n, rfl, hn⟩, hb⟩
      rw [Lx.S_list] at hn ⊢
      have hc : Lx.cnt (c :: r) = if 0 ≤ Lx.num (c :: Lx.run r) then (c :: Lx.run r).length else 0 := by unfold Lx.cnt Lx.one; simp only [if_neg h1, if_pos h2, hr]
      have ho : (Lx.one 0 (c :: r)).1 = ⟨2, 0, Lx.num (c :: Lx.run r), []⟩ := by unfold Lx.one; simp only [if_neg h1, if_pos h2, hr]
      by_cases h5 : 0 ≤ Lx.num (c :: Lx.run r)
      · rw [if_pos h5] at hc
        exact ⟨⟨2, n, [], by rw [hc, decide_eq_true h5]; rfl, fun _ => by rw [ho, hn h5]⟩, hb⟩
      · rw [if_neg h5] at hc
        exact ⟨⟨2, n, [], by rw [hc, decide_eq_false h5]; rfl, fun h => absurd hc h⟩, hb⟩
    · simp only [Bool.not_eq_true] at h1 h2
      have hr := Lx.run_nil (c := c) (r := r) (by unfold Lx.wordy; rw [h1, h2]; rfl)
      have hf : Lx.fst (c :: r) = (c :: r).take (Lx.sign (c :: r)) := by unfold Lx.fst; rw [if_pos hr]
      have hc : Lx.cnt (c :: r) = Lx.sign (c :: r) := by unfold Lx.cnt Lx.one; simp [h1, h2]
      have ho : (Lx.one 0 (c :: r)).1 = ⟨4, 0, 0, (c :: r).take (Lx.sign (c :: r))⟩ := by unfold Lx.one; simp [h1, h2]
      rw [hf] at hfl ⊢
      rcases hsg : Lx.sign (c :: r) with _ | k
      · rw [hsg] at hc
        refine (token_none b w).mono ?_
        rintro e w' ⟨rfl, hb⟩
        exact ⟨⟨0, 0, [], by rw [hc]; rfl, fun h => absurd hc h⟩, hb⟩
      · rw [hsg] at hc hfl ho
        rw [List.take_succ_cons] at hfl ho ⊢
        have h0 : 0 < (Lx.S (c :: r.take k)).size := by rw [Lx.S_size]; simp
        refine (token_sign (Lx.S (c :: r.take k)) (by rw [Lx.S_size]; omega) h0 (by rw [hg]; exact h2) (by rw [hg]; exact h1) b w).mono ?_
        rintro e w' ⟨rfl, hb⟩
        exact ⟨⟨4, 0, c :: r.take k, by rw [hc]; rfl, fun _ => ho⟩, hb⟩
end Go.Proofs.YtjfdcnggnldgdaaGreatDoor
end
section
set_option linter.unusedVariables false
set_option linter.unusedSimpArgs false
namespace Go.Proofs.YtjfdcnggnldgdaaGreatDoor

mutual
/-- a statement so much further on -/
def Sx.S.on (d : Nat) : Sx.S → Sx.S
  | .mk k p n s t a b e z => .mk k (p + d) n s t (Sx.E.onL d a) (Sx.S.onL d b) (Sx.S.onL d e) z
def Sx.S.onL (d : Nat) : List Sx.S → List Sx.S
  | [] => []
  | e :: l => Sx.S.on d e :: Sx.S.onL d l
end
theorem Sx.onS_mk (d : Nat) (k p n : Int) (s : List UInt8) (t : Sx.Ty) (a : List Sx.E) (b e : List Sx.S) (z : Bool) : Sx.S.on d (.mk k p n s t a b e z) = .mk k (p + d) n s t (Sx.E.onL d a) (Sx.S.onL d b) (Sx.S.onL d e) z := by rw [Sx.S.on]
theorem Sx.onSL_nil (d : Nat) : Sx.S.onL d [] = [] := by rw [Sx.S.onL]
theorem Sx.onSL_cons (d : Nat) (e : Sx.S) (l : List Sx.S) : Sx.S.onL d (e :: l) = Sx.S.on d e :: Sx.S.onL d l := by rw [Sx.S.onL]
def Sx.F.on (d : Nat) (x : Sx.F) : Sx.F := { x with pos := x.pos + d, params := x.params.map (Sx.Pa.on d), body := Sx.S.onL d x.body }
section
variable {K J : List Lx.Tok} {m d : Nat}
end
end Go.Proofs.YtjfdcnggnldgdaaGreatDoor
end
