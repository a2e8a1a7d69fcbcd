/-
  What lex's token returns.
-/
import Derived.Test.YtknbnfnibdbokaaDoorLxB
namespace Go.Proofs.YtknbnfnibdbokaaDoor
open Go.ChangeShapes Go.WideShapes Go.ChangeAt Go.RowKit Go.WideMaps Go.Maps
set_option linter.unusedVariables false
set_option linter.unusedSimpArgs false

theorem Lx.isEmpty (s : ByteArray) (h : 0 < s.size) : s.toList.isEmpty = false := by
  have h1 := Lx.notEmpty s
  cases hq : s.toList.isEmpty
  · rfl
  · rw [hq, decide_eq_true h] at h1; cases h1
theorem bel_new {w w' : World} {o : Obj} (h : Below (w.alloc o).heap.size (w.alloc o) w') : Below w.heap.size w w' := ((Below.refl _ w).alloc (Nat.le_refl _) o).trans (h.mono (by simp))
set_option maxHeartbeats 4000000 in
set_option maxRecDepth 100000 in
theorem token_none (b : Nat) (w : World) :
    Calls Tryd.prog 14 #[.string ⟨#[]⟩, .map (some b)] w fun e w' => e = .returned (.tuple #[.agg (tkA 0 0 0 ⟨#[]⟩), .bool false]) ∧ Below w.heap.size w w' := by
  have HB := Lib.hid (Blk.new w 37 (tkA 0 0 0 ⟨#[]⟩))
  go_enter Tryd.func14, Tryd.ntmps14
  go_wp2_with (first
    | ((with_reducible refine wpList_store_blk tokT HB.out (fitsT 0 0 0 ⟨#[]⟩) ?_ ?_); exact rfl))
  try simp only [Exit.inBlock, Exit.then]
  refine bp_blk2 tokT rfl rfl (HB.out.row (ds := tkA 0 0 0 ⟨#[]⟩) rfl) rfl ⟨rfl, below_setRow ((Below.refl _ _).alloc (Nat.le_refl _) _) (Nat.le_refl _) _⟩
set_option maxHeartbeats 4000000 in
set_option maxRecDepth 100000 in
theorem token_num (s : ByteArray) (hs : s.size ≤ 281474976710656) (h0 : 0 < s.size) (hd : Lx.digit (s[0]'h0) = true) (b : Nat) (w : World) :
    Calls Tryd.prog 14 #[.string s, .map (some b)] w fun e w' => (∃ n : Int, e = .returned (.tuple #[.agg (tkA 2 0 n ⟨#[]⟩), .bool (decide (0 ≤ Lx.num s.data.toList))]) ∧ (0 ≤ Lx.num s.data.toList → n = Lx.num s.data.toList)) ∧ Below w.heap.size w w' := by
  have HB := Lib.hid (Blk.new w 37 (tkA 0 0 0 ⟨#[]⟩))
  have hE := Lx.isEmpty s h0
  have C1 := Lib.hid fun w => digit_any (s[0]'h0) w
  rw [hd] at C1
  have C2 := Lib.hid fun w => number_any s hs w
  have h0' : (0 : Int) < (s.size : Int) := by omega
  generalize Lx.num s.data.toList = N at C2 ⊢
  clear hd
  go_enter Tryd.func14, Tryd.ntmps14
  go_wp2_with (first
    | (go_at_call 21; refine (C1.out _).mono ?_; rintro e w1 ⟨rfl, rfl⟩)
    | (go_at_call 23; refine (C2.out _).mono ?_; rintro e w2 ⟨⟨n, rfl, HN0⟩, hb2⟩; have HN := Lib.hid HN0; have HB2 := Lib.hid (HB.out.kept hb2); have HC := Lib.hid (bel_new hb2); clear HN0 hb2)
    | ((with_reducible refine wpList_store_blk tokT HB2.out (fitsT 2 0 n ⟨#[]⟩) ?_ ?_); exact rfl))
  try simp only [Exit.inBlock, Exit.then]
  refine bp_blk2 tokT rfl rfl (HB2.out.row (ds := tkA 2 0 n ⟨#[]⟩) rfl) rfl ⟨⟨n, rfl, HN.out⟩, below_setRow HC.out (Nat.le_refl _) _⟩
set_option maxHeartbeats 4000000 in
set_option maxRecDepth 100000 in
theorem token_sign (s : ByteArray) (hs : s.size ≤ 281474976710656) (h0 : 0 < s.size) (hd : Lx.digit (s[0]'h0) = false) (hl : Lx.letter (s[0]'h0) = false) (b : Nat) (w : World) :
    Calls Tryd.prog 14 #[.string s, .map (some b)] w fun e w' => e = .returned (.tuple #[.agg (tkA 4 0 0 s), .bool true]) ∧ Below w.heap.size w w' := by
  have HB := Lib.hid (Blk.new w 37 (tkA 0 0 0 ⟨#[]⟩))
  have hE := Lx.isEmpty s h0
  have C1 := Lib.hid fun w => digit_any (s[0]'h0) w
  rw [hd] at C1
  have C2 := Lib.hid fun w => letter_any (s[0]'h0) w
  rw [hl] at C2
  have C3 := Lib.hid fun w => clone_any s w hs
  have h0' : (0 : Int) < (s.size : Int) := by omega
  clear hd hl
  go_enter Tryd.func14, Tryd.ntmps14
  go_wp2_with (first
    | (go_at_call 21; refine (C1.out _).mono ?_; rintro e w1 ⟨rfl, rfl⟩)
    | (go_at_call 20; refine (C2.out _).mono ?_; rintro e w1 ⟨rfl, rfl⟩)
    | (go_at_call 24; refine (C3.out _).mono ?_; rintro e w2 ⟨rfl, hb2⟩; have HB2 := Lib.hid (HB.out.kept hb2); have HC := Lib.hid (bel_new hb2); clear hb2)
    | ((with_reducible refine wpList_store_blk tokT HB2.out (fitsT 4 0 0 s) ?_ ?_); exact rfl))
  try simp only [Exit.inBlock, Exit.then]
  refine bp_blk2 tokT rfl rfl (HB2.out.row (ds := tkA 4 0 0 s) rfl) rfl ⟨rfl, below_setRow HC.out (Nat.le_refl _) _⟩
set_option maxHeartbeats 4000000 in
set_option maxRecDepth 100000 in
theorem token_name (s : ByteArray) (hs : s.size ≤ 281474976710656) (h0 : 0 < s.size) (hd : Lx.digit (s[0]'h0) = false) (hl : Lx.letter (s[0]'h0) = true) (b : Nat) (w : World) (hk : KnownAt w b) :
    Calls Tryd.prog 14 #[.string s, .map (some b)] w fun e w' => e = .returned (.tuple #[.agg (tkA (if Lx.words.contains s.data.toList then 3 else 1) 0 0 s), .bool (decide (s.size ≤ 40))]) ∧ Below w.heap.size w w' := by
  have HB := Lib.hid (Blk.new w 37 (tkA 0 0 0 ⟨#[]⟩))
  have HK := Lib.hid (hk.kept ((Below.refl _ _).alloc (Nat.le_refl _) (.cells (tkA 0 0 0 ⟨#[]⟩) 37)))
  clear hk
  have hE := Lx.isEmpty s h0
  have C1 := Lib.hid fun w => digit_any (s[0]'h0) w
  rw [hd] at C1
  have C2 := Lib.hid fun w => letter_any (s[0]'h0) w
  rw [hl] at C2
  have C3 := Lib.hid fun w => clone_any s w hs
  have h0' : (0 : Int) < (s.size : Int) := by omega
  clear hd hl
  have hkey : keyOf Tryd.prog 9 (.string s) = some (.string s.data.toList) := keyOf_string_mk Tryd.underlying9 (by unfold maxLen; omega)
  have HHAS := Lib.hid (Lx.known_has s.data.toList)
  have HAT := Lib.hid (fun z => Lx.known_at s.data.toList z)
  have hdec : decide ((s.size : Int) ≤ 40) = decide (s.size ≤ 40) := decide_eq_decide.2 (by omega)
  have HD := Lib.hid hdec
  clear hdec
  cases hc : Lx.words.contains s.data.toList
  · rw [hc] at HHAS
    rw [if_neg (by decide)]
    clear HAT hc
    go_enter Tryd.func14, Tryd.ntmps14
    go_wp2_with (first
      | (go_at_call 21; refine (C1.out _).mono ?_; rintro e w1 ⟨rfl, rfl⟩)
      | (go_at_call 20; refine (C2.out _).mono ?_; rintro e w1 ⟨rfl, rfl⟩)
      | (at_lookup; refine wpList_lookup_own_ok_int _ rfl _ _ 41 rfl 9 3 .i64 lawS Tryd.underlying41 Tryd.underlying3 (zeroI _) b 19 _ rfl HK.out _ _ rfl hkey ?_; intro c hat hwc; rw [HHAS.out]; clear hat hwc)
      | (go_at_call 24; refine (C3.out _).mono ?_; rintro e w2 ⟨rfl, hb2⟩; have HB2 := Lib.hid (HB.out.kept hb2); have HC := Lib.hid (bel_new hb2); clear hb2)
      | ((with_reducible refine wpList_store_blk tokT HB2.out (fitsT 1 0 0 s) ?_ ?_); exact rfl))
    all_goals
      try simp only [Exit.inBlock, Exit.then]
      refine bp_blk2 tokT rfl rfl (HB2.out.row (ds := tkA 1 0 0 s) rfl) rfl ⟨?_, below_setRow HC.out (Nat.le_refl _) _⟩
      rw [← HD.out]; rfl
  · rw [hc] at HHAS
    have hat3 := HAT.out (.lit (.int .i64 0)) hc
    have HAT3 := Lib.hid hat3
    rw [if_pos rfl]
    clear HAT hc hat3
    go_enter Tryd.func14, Tryd.ntmps14
    go_wp2_with (first
      | (go_at_call 21; refine (C1.out _).mono ?_; rintro e w1 ⟨rfl, rfl⟩)
      | (go_at_call 20; refine (C2.out _).mono ?_; rintro e w1 ⟨rfl, rfl⟩)
      | (at_lookup; refine wpList_lookup_own_ok_int _ rfl _ _ 41 rfl 9 3 .i64 lawS Tryd.underlying41 Tryd.underlying3 (zeroI _) b 19 _ rfl HK.out _ _ rfl hkey ?_; intro c hat hwc; rw [HHAS.out]; have hc3 : c = 3 := (by have h9 := hat.symm.trans HAT3.out; injection h9 with h9; injection h9); subst hc3; clear hat hwc)
      | (go_at_call 24; refine (C3.out _).mono ?_; rintro e w2 ⟨rfl, hb2⟩; have HB2 := Lib.hid (HB.out.kept hb2); have HC := Lib.hid (bel_new hb2); clear hb2)
      | ((with_reducible refine wpList_store_blk tokT HB2.out (fitsT 3 0 0 s) ?_ ?_); exact rfl))
    all_goals
      try simp only [Exit.inBlock, Exit.then]
      refine bp_blk2 tokT rfl rfl (HB2.out.row (ds := tkA 3 0 0 s) rfl) rfl ⟨?_, below_setRow HC.out (Nat.le_refl _) _⟩
      rw [← HD.out]; rfl
end Go.Proofs.YtknbnfnibdbokaaDoor
