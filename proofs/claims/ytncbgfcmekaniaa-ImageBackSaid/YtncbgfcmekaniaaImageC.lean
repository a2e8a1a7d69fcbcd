/-
  Package image: what starts, check, field and at return, and the document's place and at.
-/
import Derived.Test.YtncbgfcmekaniaaImageM
import Derived.Test.YtncbgfcmekaniaaImageK
import Derived.Test.YtncbgfcmekaniaaBuild
import Derived.StillTailTactics
namespace Go.Proofs.Ytncbgfcmekaniaa
open Go.ChangeShapes Go.WideShapes Go.ChangeAt Go.RowKit
set_option linter.unusedVariables false

theorem Im.tmod2 (a : Int) : Int.tmod a 2 = 0 ↔ a % 2 = 0 := by
  rw [← Int.dvd_iff_tmod_eq_zero, Int.dvd_iff_emod_eq_zero]
set_option maxHeartbeats 4000000 in
theorem starts_any (a n : Int) (w : World) :
    Calls Try.prog 20 #[.int .i64 a, .int .i64 n] w fun e w' => e = .returned (.bool (Im.start a n)) ∧ w = w' := by
  by_cases h0 : Int.tmod a 2 = 0
  · by_cases h1 : 64 ≤ a
    · by_cases h2 : a < n
      · have He : Hid (true = Im.start a n) := Lib.hid (by unfold Im.start; rw [decide_eq_true ⟨(Im.tmod2 a).1 h0, h1, h2⟩])
        go_enter Try.func20, Try.ntmps20
        go_wp2
        go_ret
        exact ⟨ret_bool He.out, rfl⟩
      · have He : Hid (false = Im.start a n) := Lib.hid (by unfold Im.start; rw [decide_eq_false (fun h => h2 h.2.2)])
        go_enter Try.func20, Try.ntmps20
        go_wp2
        go_ret
        exact ⟨ret_bool He.out, rfl⟩
    · have He : Hid (false = Im.start a n) := Lib.hid (by unfold Im.start; rw [decide_eq_false (fun h => h1 h.2.1)])
      go_enter Try.func20, Try.ntmps20
      go_wp2
      go_ret
      exact ⟨ret_bool He.out, rfl⟩
  · have He : Hid (false = Im.start a n) := Lib.hid (by unfold Im.start; rw [decide_eq_false (fun h => h0 ((Im.tmod2 a).2 h.1))])
    go_enter Try.func20, Try.ntmps20
    go_wp2
    go_ret
    exact ⟨ret_bool He.out, rfl⟩
set_option maxHeartbeats 4000000 in
theorem place_any (a n : Int) (w : World) :
    Calls Try.prog 15 #[.int .i64 a, .int .i64 n] w fun e w' => e = .returned (.bool (Im.start a n)) ∧ w = w' := by
  by_cases h0 : 64 ≤ a
  · by_cases h1 : a < n
    · have He : Hid ((a % 2 == 0) = Im.start a n) := Lib.hid (by unfold Im.start; by_cases h : a % 2 = 0 <;> simp [h, h0, h1])
      go_enter Try.func15, Try.ntmps15
      go_wp2
      go_ret
      exact ⟨ret_bool He.out, rfl⟩
    · have He : Hid (false = Im.start a n) := Lib.hid (by unfold Im.start; rw [decide_eq_false (fun h => h1 h.2.2)])
      go_enter Try.func15, Try.ntmps15
      go_wp2
      go_ret
      exact ⟨ret_bool He.out, rfl⟩
  · have He : Hid (false = Im.start a n) := Lib.hid (by unfold Im.start; rw [decide_eq_false (fun h => h0 h.2.1)])
    go_enter Try.func15, Try.ntmps15
    go_wp2
    go_ret
    exact ⟨ret_bool He.out, rfl⟩
theorem Im.err_bad {x : Im.Hd} {n : Int} (h : ¬ Mm.err x.i x.o x.l n = 0) : Im.err x n = Mm.err x.i x.o x.l n := by unfold Im.err; rw [if_neg h]
theorem Im.err_arg {x : Im.Hd} {n : Int} (h : Mm.err x.i x.o x.l n = 0) (g : ¬ (0 ≤ x.m ∧ x.m ≤ 2 ∧ Im.start x.r n = true ∧ Im.start x.h n = true)) : Im.err x n = 2 := by unfold Im.err; rw [if_pos h, if_neg g]
theorem Im.err_good {x : Im.Hd} {n : Int} (h : Mm.err x.i x.o x.l n = 0) (g : 0 ≤ x.m ∧ x.m ≤ 2 ∧ Im.start x.r n = true ∧ Im.start x.h n = true) : Im.err x n = 0 := by unfold Im.err; rw [if_pos h, if_pos g]
theorem Im.check_lit (i o r f E : Int) (w : World) (h : Hid (Mm.err i o r f = E)) :
    Calls Try.prog 19 #[.agg #[.int .i64 i, .int .i64 o, .int .i64 r], .int .i64 f] w fun e w' => e = .returned (.int .i64 E) ∧ Below w.heap.size w w' := by
  have := check_any i o r f w
  rw [h.out] at this
  exact this
theorem Im.box6 (w : World) (v0 v1 v2 v3 v4 v5 : Value) (t : TypeId) : ∀ j u, [v0, v1, v2, v3, v4, v5][j]? = some u → (w.alloc (.cells #[v0, v1, v2, v3, v4, v5] t)).cell? ⟨w.heap.size, j, none⟩ = some u := by
  intro j u hj
  match j, hj with
  | 0, h => simpa using h
  | 1, h => simpa using h
  | 2, h => simpa using h
  | 3, h => simpa using h
  | 4, h => simpa using h
  | 5, h => simpa using h
/-- a head's cells in a block -/
abbrev Im.HdAt (W : World) (b : Nat) (r h i o l m : Int) : Prop := W.cell? ⟨b, 0, none⟩ = some (.int .i64 r) ∧ W.cell? ⟨b, 1, none⟩ = some (.int .i64 h) ∧ W.cell? ⟨b, 2, none⟩ = some (.int .i64 i) ∧ W.cell? ⟨b, 3, none⟩ = some (.int .i64 o) ∧ W.cell? ⟨b, 4, none⟩ = some (.int .i64 l) ∧ W.cell? ⟨b, 5, none⟩ = some (.int .i64 m)
theorem cell_lt {w : World} {a : Addr} {u : Value} (h : w.cell? a = some u) : a.block < w.heap.size := by
  apply Nat.lt_of_not_le
  intro hge
  simp [World.cell?, Array.getElem?_eq_none hge] at h
theorem Im.HdAt.kept {W W' : World} {b : Nat} {r h i o l m : Int} (hc : Im.HdAt W b r h i o l m) (hb : Below W.heap.size W W') : Im.HdAt W' b r h i o l m := by
  have hlt : b < W.heap.size := cell_lt hc.1
  obtain ⟨h0, h1, h2, h3, h4, h5⟩ := hc
  refine ⟨?_, ?_, ?_, ?_, ?_, ?_⟩ <;> (rw [hb.cell (by exact hlt)]; assumption)
theorem Im.HdAt.new (w : World) (r h i o l m : Int) (t : TypeId) : Im.HdAt (w.alloc (.cells #[.int .i64 r, .int .i64 h, .int .i64 i, .int .i64 o, .int .i64 l, .int .i64 m] t)) w.heap.size r h i o l m := by
  refine ⟨?_, ?_, ?_, ?_, ?_, ?_⟩ <;> simp
set_option maxHeartbeats 8000000 in
set_option maxRecDepth 100000 in
theorem icheck_any (r h i o l m n : Int) (w : World) :
    Calls Try.prog 12 #[.agg #[.int .i64 r, .int .i64 h, .int .i64 i, .int .i64 o, .int .i64 l, .int .i64 m], .int .i64 n] w fun e w' => e = .returned (.int .i64 (Im.err ⟨r, h, i, o, l, m⟩ n)) ∧ Below w.heap.size w w' := by
  obtain ⟨E, hE⟩ : ∃ E, Mm.err i o l n = E := ⟨_, rfl⟩
  have HM := Lib.hid hE
  by_cases hz : E = 0
  · subst hz
    clear hE
    by_cases hm0 : m < 0
    · rw [Im.err_arg (x := ⟨r, h, i, o, l, m⟩) HM.out (fun g => by have := g.1; dsimp only at this; omega)]
      go_enter Try.func12, Try.ntmps12
      go_wp2_with (first | (go_at_call 19; refine (Im.check_lit _ _ _ _ _ _ HM).mono ?_; rintro e w1 ⟨rfl, hb1⟩; have HC := Lib.hid ((Im.HdAt.new w r h i o l m 30).kept hb1); obtain ⟨c0, c1, c2, c3, c4, c5⟩ := HC.out; have HB := Lib.hid (((Below.refl w.heap.size w).alloc (Nat.le_refl _) _).trans (hb1.mono (by simp))); clear hb1) | (go_at_call 20; refine (starts_any _ _ _).mono ?_; rintro e w2 ⟨rfl, rfl⟩))
      go_ret
      exact ⟨rfl, HB.out⟩
    · by_cases hm1 : 3 ≤ m
      · rw [Im.err_arg (x := ⟨r, h, i, o, l, m⟩) HM.out (fun g => by have := g.2.1; dsimp only at this; omega)]
        go_enter Try.func12, Try.ntmps12
        go_wp2_with (first | (go_at_call 19; refine (Im.check_lit _ _ _ _ _ _ HM).mono ?_; rintro e w1 ⟨rfl, hb1⟩; have HC := Lib.hid ((Im.HdAt.new w r h i o l m 30).kept hb1); obtain ⟨c0, c1, c2, c3, c4, c5⟩ := HC.out; have HB := Lib.hid (((Below.refl w.heap.size w).alloc (Nat.le_refl _) _).trans (hb1.mono (by simp))); clear hb1) | (go_at_call 20; refine (starts_any _ _ _).mono ?_; rintro e w2 ⟨rfl, rfl⟩))
        go_ret
        exact ⟨rfl, HB.out⟩
      · cases hs : Im.start r n with
        | false =>
          rw [Im.err_arg (x := ⟨r, h, i, o, l, m⟩) HM.out (fun g => by have := g.2.2.1; dsimp only at this; rw [hs] at this; cases this)]
          go_enter Try.func12, Try.ntmps12
          go_wp2_with (first | (go_at_call 19; refine (Im.check_lit _ _ _ _ _ _ HM).mono ?_; rintro e w1 ⟨rfl, hb1⟩; have HC := Lib.hid ((Im.HdAt.new w r h i o l m 30).kept hb1); obtain ⟨c0, c1, c2, c3, c4, c5⟩ := HC.out; have HB := Lib.hid (((Below.refl w.heap.size w).alloc (Nat.le_refl _) _).trans (hb1.mono (by simp))); clear hb1) | (go_at_call 20; refine (starts_any _ _ _).mono ?_; rintro e w2 ⟨rfl, rfl⟩))
          go_ret
          exact ⟨rfl, HB.out⟩
        | true =>
          cases hh : Im.start h n with
          | false =>
            rw [Im.err_arg (x := ⟨r, h, i, o, l, m⟩) HM.out (fun g => by have := g.2.2.2; dsimp only at this; rw [hh] at this; cases this)]
            go_enter Try.func12, Try.ntmps12
            go_wp2_with (first | (go_at_call 19; refine (Im.check_lit _ _ _ _ _ _ HM).mono ?_; rintro e w1 ⟨rfl, hb1⟩; have HC := Lib.hid ((Im.HdAt.new w r h i o l m 30).kept hb1); obtain ⟨c0, c1, c2, c3, c4, c5⟩ := HC.out; have HB := Lib.hid (((Below.refl w.heap.size w).alloc (Nat.le_refl _) _).trans (hb1.mono (by simp))); clear hb1) | (go_at_call 20; refine (starts_any _ _ _).mono ?_; rintro e w2 ⟨rfl, rfl⟩))
            go_ret
            exact ⟨rfl, HB.out⟩
          | true =>
            rw [Im.err_good (x := ⟨r, h, i, o, l, m⟩) HM.out ⟨by dsimp only; omega, by dsimp only; omega, hs, hh⟩]
            go_enter Try.func12, Try.ntmps12
            go_wp2_with (first | (go_at_call 19; refine (Im.check_lit _ _ _ _ _ _ HM).mono ?_; rintro e w1 ⟨rfl, hb1⟩; have HC := Lib.hid ((Im.HdAt.new w r h i o l m 30).kept hb1); obtain ⟨c0, c1, c2, c3, c4, c5⟩ := HC.out; have HB := Lib.hid (((Below.refl w.heap.size w).alloc (Nat.le_refl _) _).trans (hb1.mono (by simp))); clear hb1) | (go_at_call 20; refine (starts_any _ _ _).mono ?_; rintro e w2 ⟨rfl, rfl⟩))
            go_ret
            exact ⟨rfl, HB.out⟩
  · rw [Im.err_bad (x := ⟨r, h, i, o, l, m⟩) (by rw [HM.out]; exact hz), show Mm.err (⟨r, h, i, o, l, m⟩ : Im.Hd).i (⟨r, h, i, o, l, m⟩ : Im.Hd).o (⟨r, h, i, o, l, m⟩ : Im.Hd).l n = E from HM.out]
    clear hE
    go_enter Try.func12, Try.ntmps12
    go_wp2_with (first | (go_at_call 19; refine (Im.check_lit _ _ _ _ _ _ HM).mono ?_; rintro e w1 ⟨rfl, hb1⟩; have HC := Lib.hid ((Im.HdAt.new w r h i o l m 30).kept hb1); obtain ⟨c0, c1, c2, c3, c4, c5⟩ := HC.out; have HB := Lib.hid (((Below.refl w.heap.size w).alloc (Nat.le_refl _) _).trans (hb1.mono (by simp))); clear hb1) | (go_at_call 20; refine (starts_any _ _ _).mono ?_; rintro e w2 ⟨rfl, rfl⟩))
    go_ret
    exact ⟨rfl, HB.out⟩
set_option maxHeartbeats 8000000 in
set_option maxRecDepth 100000 in
theorem field_any (r h i o l m : Int) (k : Nat) (w : World) (hk : k < 16) (hr : r ≤ 1000000) (hr0 : 0 ≤ r) (hh : h ≤ 1000000) (hh0 : 0 ≤ h) :
    Calls Try.prog 23 #[.agg #[.int .i64 r, .int .i64 h, .int .i64 i, .int .i64 o, .int .i64 l, .int .i64 m], .int .i64 k] w fun e w' => e = .returned (.int .i64 (Im.field ⟨r, h, i, o, l, m⟩ k)) ∧ Below w.heap.size w w' := by
  rcases (by omega : k = 0 ∨ k = 1 ∨ k = 2 ∨ k = 3 ∨ k = 4 ∨ k = 5 ∨ k = 6 ∨ k = 7 ∨ k = 8 ∨ k = 9 ∨ k = 10 ∨ k = 11 ∨ k = 12 ∨ k = 13 ∨ k = 14 ∨ k = 15) with rfl | rfl | rfl | rfl | rfl | rfl | rfl | rfl | rfl | rfl | rfl | rfl | rfl | rfl | rfl | rfl
  all_goals
    go_enter Try.func23, Try.ntmps23
    go_wp2
    go_ret
    exact ⟨rfl, by go_grown⟩
end Go.Proofs.Ytncbgfcmekaniaa
