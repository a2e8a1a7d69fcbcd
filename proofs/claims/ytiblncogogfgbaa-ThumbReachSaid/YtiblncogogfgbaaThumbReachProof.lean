/-
  Law ThumbReach: at every input the call returns true and each argument reads as it did before.
  Conditions: none but those of the given row.
-/
import Derived.Test.YtiblncogogfgbaaRows
import Derived.Test.YtiblncogogfgbaaThumbE
import Derived.WalkKit
import Derived.ProofKit
import Derived.OpenShut
import Derived.ShutString
import Derived.ChangeOld
import Derived.Below
import Derived.LoopN
namespace Go.Proofs.Ytiblncogogfgbaa.thumbReach
open Go.ChangeShapes Go.WideShapes Go.ChangeAt Go.RowKit
open Go.ChangeMaps (open_string shut_string)
set_option linter.unusedVariables false

theorem own : ownKnob Try.prog.godebug = none := by kernel_rfl
theorem laidOut : laidOutB Try.prog = true := by kernel_rfl

theorem bel_any {w w1 w2 : World} (hb : Below w1.heap.size w1 w2) (h : Below w.heap.size w w1) : Below w.heap.size w w2 := h.trans (hb.mono h.size)
theorem first_no (a0 a1 a2 : Int) (w : World) (h : (a0 ≠ 24 ∧ a0 ≠ 25) ∨ a1 < 0 ∨ 13 < a1) :
    Calls Try.prog 6 #[.int .i64 a0, .int .i64 a1, .int .i64 a2] w fun e w' => e = .returned (.bool true) ∧ Below w.heap.size w w' := by
  rcases h with ⟨h1, h2⟩ | h | h
  · have g1 : (a0 != 24) = true := by simp [h1]
    have g2 : (a0 != 25) = true := by simp [h2]
    clear h1 h2
    go_enter Try.func6, Try.ntmps6
    go_wp2_with (go_at_call 13; refine (lives_any _).mono ?_; rintro e w' ⟨rfl, hb⟩)
    go_ret
    exact ⟨rfl, hb⟩
  ·
    go_enter Try.func6, Try.ntmps6
    go_wp2_with (go_at_call 13; refine (lives_any _).mono ?_; rintro e w' ⟨rfl, hb⟩)
    all_goals (go_ret; exact ⟨rfl, hb⟩)
  ·
    go_enter Try.func6, Try.ntmps6
    go_wp2_with (go_at_call 13; refine (lives_any _).mono ?_; rintro e w' ⟨rfl, hb⟩)
    all_goals (go_ret; exact ⟨rfl, hb⟩)
set_option maxHeartbeats 4000000 in
theorem r24odd (imm a1 : Int) (w : World) (he : (imm.tmod 2 == 0) = false)  (k0 : 0 ≤ a1) (k1 : a1 ≤ 13)
    (c0 : Th.check ⟨24, 0, 0, 0, 0, imm, 0, false⟩ = 6) (c1 : Th.check ⟨24, 0, 0, 0, 0, imm, 0, true⟩ = 6) :
    Calls Try.prog 6 #[.int .i64 24, .int .i64 a1, .int .i64 imm] w fun e w' => e = .returned (.bool true) ∧ Below w.heap.size w w' := by
  have r0 : Th.reachLo 24 false = -2048 := rfl
  have r1 : Th.reachHi 24 false = 2046 := rfl
  have r2 : Th.reachLo 24 true = -16777216 := rfl
  have r3 : Th.reachHi 24 true = 16777214 := rfl
  have hb : Below w.heap.size w w := Below.refl _ _
  go_enter Try.func6, Try.ntmps6
  go_wp2
  refine wp_loop_rounds 3 ?_
  iterate 3 (rw [rounds_succ]; go_wp2_with (first | (go_at_call 7; refine (reach_any _ _ _).mono ?_; rintro e w' ⟨rfl, rfl⟩) | (go_at_call 9; refine (check_any _ _ _ _ _ _ _ _ _).mono ?_; rintro e w' ⟨rfl, hb⟩; replace hb := bel_any hb (by first | assumption | exact bel_alloc (by assumption) _ | exact bel_alloc (bel_alloc (by assumption) _) _)) | (go_at_call 13; refine (lives_any _).mono ?_; rintro e w' ⟨rfl, hb⟩; replace hb := bel_any hb (by first | assumption | exact bel_alloc (by assumption) _))))
  go_ret
  exact ⟨rfl, hb⟩
set_option maxHeartbeats 4000000 in
theorem r24farlo (imm a1 : Int) (w : World) (he : (imm.tmod 2 == 0) = true) (l0 : imm < -16777216) (k0 : 0 ≤ a1) (k1 : a1 ≤ 13)
    (c0 : Th.check ⟨24, 0, 0, 0, 0, imm, 0, false⟩ = 6) (c1 : Th.check ⟨24, 0, 0, 0, 0, imm, 0, true⟩ = 6) :
    Calls Try.prog 6 #[.int .i64 24, .int .i64 a1, .int .i64 imm] w fun e w' => e = .returned (.bool true) ∧ Below w.heap.size w w' := by
  have r0 : Th.reachLo 24 false = -2048 := rfl
  have r1 : Th.reachHi 24 false = 2046 := rfl
  have r2 : Th.reachLo 24 true = -16777216 := rfl
  have r3 : Th.reachHi 24 true = 16777214 := rfl
  have hb : Below w.heap.size w w := Below.refl _ _
  go_enter Try.func6, Try.ntmps6
  go_wp2
  refine wp_loop_rounds 3 ?_
  iterate 3 (rw [rounds_succ]; go_wp2_with (first | (go_at_call 7; refine (reach_any _ _ _).mono ?_; rintro e w' ⟨rfl, rfl⟩) | (go_at_call 9; refine (check_any _ _ _ _ _ _ _ _ _).mono ?_; rintro e w' ⟨rfl, hb⟩; replace hb := bel_any hb (by first | assumption | exact bel_alloc (by assumption) _ | exact bel_alloc (bel_alloc (by assumption) _) _)) | (go_at_call 13; refine (lives_any _).mono ?_; rintro e w' ⟨rfl, hb⟩; replace hb := bel_any hb (by first | assumption | exact bel_alloc (by assumption) _))))
  go_ret
  exact ⟨rfl, hb⟩
set_option maxHeartbeats 4000000 in
theorem r24farhi (imm a1 : Int) (w : World) (he : (imm.tmod 2 == 0) = true) (l0 : imm % 2 = 0) (l1 : 16777214 < imm) (l2 : -2048 ≤ imm) (l3 : -16777216 ≤ imm) (k0 : 0 ≤ a1) (k1 : a1 ≤ 13)
    (c0 : Th.check ⟨24, 0, 0, 0, 0, imm, 0, false⟩ = 6) (c1 : Th.check ⟨24, 0, 0, 0, 0, imm, 0, true⟩ = 6) :
    Calls Try.prog 6 #[.int .i64 24, .int .i64 a1, .int .i64 imm] w fun e w' => e = .returned (.bool true) ∧ Below w.heap.size w w' := by
  have r0 : Th.reachLo 24 false = -2048 := rfl
  have r1 : Th.reachHi 24 false = 2046 := rfl
  have r2 : Th.reachLo 24 true = -16777216 := rfl
  have r3 : Th.reachHi 24 true = 16777214 := rfl
  have hb : Below w.heap.size w w := Below.refl _ _
  go_enter Try.func6, Try.ntmps6
  go_wp2
  refine wp_loop_rounds 3 ?_
  iterate 3 (rw [rounds_succ]; go_wp2_with (first | (go_at_call 7; refine (reach_any _ _ _).mono ?_; rintro e w' ⟨rfl, rfl⟩) | (go_at_call 9; refine (check_any _ _ _ _ _ _ _ _ _).mono ?_; rintro e w' ⟨rfl, hb⟩; replace hb := bel_any hb (by first | assumption | exact bel_alloc (by assumption) _ | exact bel_alloc (bel_alloc (by assumption) _) _)) | (go_at_call 13; refine (lives_any _).mono ?_; rintro e w' ⟨rfl, hb⟩; replace hb := bel_any hb (by first | assumption | exact bel_alloc (by assumption) _))))
  go_ret
  exact ⟨rfl, hb⟩
set_option maxHeartbeats 4000000 in
theorem r24midlo (imm a1 : Int) (w : World) (he : (imm.tmod 2 == 0) = true) (l0 : -16777216 ≤ imm) (l1 : imm < -2048) (k0 : 0 ≤ a1) (k1 : a1 ≤ 13)
    (c0 : Th.check ⟨24, 0, 0, 0, 0, imm, 0, false⟩ = 6) (c1 : Th.check ⟨24, 0, 0, 0, 0, imm, 0, true⟩ = 0) :
    Calls Try.prog 6 #[.int .i64 24, .int .i64 a1, .int .i64 imm] w fun e w' => e = .returned (.bool true) ∧ Below w.heap.size w w' := by
  have r0 : Th.reachLo 24 false = -2048 := rfl
  have r1 : Th.reachHi 24 false = 2046 := rfl
  have r2 : Th.reachLo 24 true = -16777216 := rfl
  have r3 : Th.reachHi 24 true = 16777214 := rfl
  have hb : Below w.heap.size w w := Below.refl _ _
  go_enter Try.func6, Try.ntmps6
  go_wp2
  refine wp_loop_rounds 3 ?_
  iterate 3 (rw [rounds_succ]; go_wp2_with (first | (go_at_call 7; refine (reach_any _ _ _).mono ?_; rintro e w' ⟨rfl, rfl⟩) | (go_at_call 9; refine (check_any _ _ _ _ _ _ _ _ _).mono ?_; rintro e w' ⟨rfl, hb⟩; replace hb := bel_any hb (by first | assumption | exact bel_alloc (by assumption) _ | exact bel_alloc (bel_alloc (by assumption) _) _)) | (go_at_call 13; refine (lives_any _).mono ?_; rintro e w' ⟨rfl, hb⟩; replace hb := bel_any hb (by first | assumption | exact bel_alloc (by assumption) _))))
  go_ret
  exact ⟨rfl, hb⟩
set_option maxHeartbeats 4000000 in
theorem r24midhi (imm a1 : Int) (w : World) (he : (imm.tmod 2 == 0) = true) (l0 : imm % 2 = 0) (l1 : imm ≤ 16777214) (l2 : 2046 < imm) (l3 : -2048 ≤ imm) (l4 : -16777216 ≤ imm) (k0 : 0 ≤ a1) (k1 : a1 ≤ 13)
    (c0 : Th.check ⟨24, 0, 0, 0, 0, imm, 0, false⟩ = 6) (c1 : Th.check ⟨24, 0, 0, 0, 0, imm, 0, true⟩ = 0) :
    Calls Try.prog 6 #[.int .i64 24, .int .i64 a1, .int .i64 imm] w fun e w' => e = .returned (.bool true) ∧ Below w.heap.size w w' := by
  have r0 : Th.reachLo 24 false = -2048 := rfl
  have r1 : Th.reachHi 24 false = 2046 := rfl
  have r2 : Th.reachLo 24 true = -16777216 := rfl
  have r3 : Th.reachHi 24 true = 16777214 := rfl
  have hb : Below w.heap.size w w := Below.refl _ _
  go_enter Try.func6, Try.ntmps6
  go_wp2
  refine wp_loop_rounds 3 ?_
  iterate 3 (rw [rounds_succ]; go_wp2_with (first | (go_at_call 7; refine (reach_any _ _ _).mono ?_; rintro e w' ⟨rfl, rfl⟩) | (go_at_call 9; refine (check_any _ _ _ _ _ _ _ _ _).mono ?_; rintro e w' ⟨rfl, hb⟩; replace hb := bel_any hb (by first | assumption | exact bel_alloc (by assumption) _ | exact bel_alloc (bel_alloc (by assumption) _) _)) | (go_at_call 13; refine (lives_any _).mono ?_; rintro e w' ⟨rfl, hb⟩; replace hb := bel_any hb (by first | assumption | exact bel_alloc (by assumption) _))))
  go_ret
  exact ⟨rfl, hb⟩
set_option maxHeartbeats 4000000 in
theorem r24near (imm a1 : Int) (w : World) (he : (imm.tmod 2 == 0) = true) (l0 : -2048 ≤ imm) (l1 : imm ≤ 2046) (k0 : 0 ≤ a1) (k1 : a1 ≤ 13)
    (c0 : Th.check ⟨24, 0, 0, 0, 0, imm, 0, false⟩ = 0) (c1 : Th.check ⟨24, 0, 0, 0, 0, imm, 0, true⟩ = 0) :
    Calls Try.prog 6 #[.int .i64 24, .int .i64 a1, .int .i64 imm] w fun e w' => e = .returned (.bool true) ∧ Below w.heap.size w w' := by
  have r0 : Th.reachLo 24 false = -2048 := rfl
  have r1 : Th.reachHi 24 false = 2046 := rfl
  have r2 : Th.reachLo 24 true = -16777216 := rfl
  have r3 : Th.reachHi 24 true = 16777214 := rfl
  have hb : Below w.heap.size w w := Below.refl _ _
  go_enter Try.func6, Try.ntmps6
  go_wp2
  refine wp_loop_rounds 3 ?_
  iterate 3 (rw [rounds_succ]; go_wp2_with (first | (go_at_call 7; refine (reach_any _ _ _).mono ?_; rintro e w' ⟨rfl, rfl⟩) | (go_at_call 9; refine (check_any _ _ _ _ _ _ _ _ _).mono ?_; rintro e w' ⟨rfl, hb⟩; replace hb := bel_any hb (by first | assumption | exact bel_alloc (by assumption) _ | exact bel_alloc (bel_alloc (by assumption) _) _)) | (go_at_call 13; refine (lives_any _).mono ?_; rintro e w' ⟨rfl, hb⟩; replace hb := bel_any hb (by first | assumption | exact bel_alloc (by assumption) _))))
  go_ret
  exact ⟨rfl, hb⟩
set_option maxHeartbeats 4000000 in
theorem r25odd (imm a1 : Int) (w : World) (he : (imm.tmod 2 == 0) = false)  (k0 : 0 ≤ a1) (k1 : a1 ≤ 13)
    (c0 : Th.check ⟨25, 0, 0, 0, 0, imm, a1, false⟩ = 6) (c1 : Th.check ⟨25, 0, 0, 0, 0, imm, a1, true⟩ = 6) :
    Calls Try.prog 6 #[.int .i64 25, .int .i64 a1, .int .i64 imm] w fun e w' => e = .returned (.bool true) ∧ Below w.heap.size w w' := by
  have r0 : Th.reachLo 25 false = -256 := rfl
  have r1 : Th.reachHi 25 false = 254 := rfl
  have r2 : Th.reachLo 25 true = -1048576 := rfl
  have r3 : Th.reachHi 25 true = 1048574 := rfl
  have hb : Below w.heap.size w w := Below.refl _ _
  go_enter Try.func6, Try.ntmps6
  go_wp2
  refine wp_loop_rounds 3 ?_
  iterate 3 (rw [rounds_succ]; go_wp2_with (first | (go_at_call 7; refine (reach_any _ _ _).mono ?_; rintro e w' ⟨rfl, rfl⟩) | (go_at_call 9; refine (check_any _ _ _ _ _ _ _ _ _).mono ?_; rintro e w' ⟨rfl, hb⟩; replace hb := bel_any hb (by first | assumption | exact bel_alloc (by assumption) _ | exact bel_alloc (bel_alloc (by assumption) _) _)) | (go_at_call 13; refine (lives_any _).mono ?_; rintro e w' ⟨rfl, hb⟩; replace hb := bel_any hb (by first | assumption | exact bel_alloc (by assumption) _))))
  go_ret
  exact ⟨rfl, hb⟩
set_option maxHeartbeats 4000000 in
theorem r25farlo (imm a1 : Int) (w : World) (he : (imm.tmod 2 == 0) = true) (l0 : imm < -1048576) (k0 : 0 ≤ a1) (k1 : a1 ≤ 13)
    (c0 : Th.check ⟨25, 0, 0, 0, 0, imm, a1, false⟩ = 6) (c1 : Th.check ⟨25, 0, 0, 0, 0, imm, a1, true⟩ = 6) :
    Calls Try.prog 6 #[.int .i64 25, .int .i64 a1, .int .i64 imm] w fun e w' => e = .returned (.bool true) ∧ Below w.heap.size w w' := by
  have r0 : Th.reachLo 25 false = -256 := rfl
  have r1 : Th.reachHi 25 false = 254 := rfl
  have r2 : Th.reachLo 25 true = -1048576 := rfl
  have r3 : Th.reachHi 25 true = 1048574 := rfl
  have hb : Below w.heap.size w w := Below.refl _ _
  go_enter Try.func6, Try.ntmps6
  go_wp2
  refine wp_loop_rounds 3 ?_
  iterate 3 (rw [rounds_succ]; go_wp2_with (first | (go_at_call 7; refine (reach_any _ _ _).mono ?_; rintro e w' ⟨rfl, rfl⟩) | (go_at_call 9; refine (check_any _ _ _ _ _ _ _ _ _).mono ?_; rintro e w' ⟨rfl, hb⟩; replace hb := bel_any hb (by first | assumption | exact bel_alloc (by assumption) _ | exact bel_alloc (bel_alloc (by assumption) _) _)) | (go_at_call 13; refine (lives_any _).mono ?_; rintro e w' ⟨rfl, hb⟩; replace hb := bel_any hb (by first | assumption | exact bel_alloc (by assumption) _))))
  go_ret
  exact ⟨rfl, hb⟩
set_option maxHeartbeats 4000000 in
theorem r25farhi (imm a1 : Int) (w : World) (he : (imm.tmod 2 == 0) = true) (l0 : imm % 2 = 0) (l1 : 1048574 < imm) (l2 : -256 ≤ imm) (l3 : -1048576 ≤ imm) (k0 : 0 ≤ a1) (k1 : a1 ≤ 13)
    (c0 : Th.check ⟨25, 0, 0, 0, 0, imm, a1, false⟩ = 6) (c1 : Th.check ⟨25, 0, 0, 0, 0, imm, a1, true⟩ = 6) :
    Calls Try.prog 6 #[.int .i64 25, .int .i64 a1, .int .i64 imm] w fun e w' => e = .returned (.bool true) ∧ Below w.heap.size w w' := by
  have r0 : Th.reachLo 25 false = -256 := rfl
  have r1 : Th.reachHi 25 false = 254 := rfl
  have r2 : Th.reachLo 25 true = -1048576 := rfl
  have r3 : Th.reachHi 25 true = 1048574 := rfl
  have hb : Below w.heap.size w w := Below.refl _ _
  go_enter Try.func6, Try.ntmps6
  go_wp2
  refine wp_loop_rounds 3 ?_
  iterate 3 (rw [rounds_succ]; go_wp2_with (first | (go_at_call 7; refine (reach_any _ _ _).mono ?_; rintro e w' ⟨rfl, rfl⟩) | (go_at_call 9; refine (check_any _ _ _ _ _ _ _ _ _).mono ?_; rintro e w' ⟨rfl, hb⟩; replace hb := bel_any hb (by first | assumption | exact bel_alloc (by assumption) _ | exact bel_alloc (bel_alloc (by assumption) _) _)) | (go_at_call 13; refine (lives_any _).mono ?_; rintro e w' ⟨rfl, hb⟩; replace hb := bel_any hb (by first | assumption | exact bel_alloc (by assumption) _))))
  go_ret
  exact ⟨rfl, hb⟩
set_option maxHeartbeats 4000000 in
theorem r25midlo (imm a1 : Int) (w : World) (he : (imm.tmod 2 == 0) = true) (l0 : -1048576 ≤ imm) (l1 : imm < -256) (k0 : 0 ≤ a1) (k1 : a1 ≤ 13)
    (c0 : Th.check ⟨25, 0, 0, 0, 0, imm, a1, false⟩ = 6) (c1 : Th.check ⟨25, 0, 0, 0, 0, imm, a1, true⟩ = 0) :
    Calls Try.prog 6 #[.int .i64 25, .int .i64 a1, .int .i64 imm] w fun e w' => e = .returned (.bool true) ∧ Below w.heap.size w w' := by
  have r0 : Th.reachLo 25 false = -256 := rfl
  have r1 : Th.reachHi 25 false = 254 := rfl
  have r2 : Th.reachLo 25 true = -1048576 := rfl
  have r3 : Th.reachHi 25 true = 1048574 := rfl
  have hb : Below w.heap.size w w := Below.refl _ _
  go_enter Try.func6, Try.ntmps6
  go_wp2
  refine wp_loop_rounds 3 ?_
  iterate 3 (rw [rounds_succ]; go_wp2_with (first | (go_at_call 7; refine (reach_any _ _ _).mono ?_; rintro e w' ⟨rfl, rfl⟩) | (go_at_call 9; refine (check_any _ _ _ _ _ _ _ _ _).mono ?_; rintro e w' ⟨rfl, hb⟩; replace hb := bel_any hb (by first | assumption | exact bel_alloc (by assumption) _ | exact bel_alloc (bel_alloc (by assumption) _) _)) | (go_at_call 13; refine (lives_any _).mono ?_; rintro e w' ⟨rfl, hb⟩; replace hb := bel_any hb (by first | assumption | exact bel_alloc (by assumption) _))))
  go_ret
  exact ⟨rfl, hb⟩
set_option maxHeartbeats 4000000 in
theorem r25midhi (imm a1 : Int) (w : World) (he : (imm.tmod 2 == 0) = true) (l0 : imm % 2 = 0) (l1 : imm ≤ 1048574) (l2 : 254 < imm) (l3 : -256 ≤ imm) (l4 : -1048576 ≤ imm) (k0 : 0 ≤ a1) (k1 : a1 ≤ 13)
    (c0 : Th.check ⟨25, 0, 0, 0, 0, imm, a1, false⟩ = 6) (c1 : Th.check ⟨25, 0, 0, 0, 0, imm, a1, true⟩ = 0) :
    Calls Try.prog 6 #[.int .i64 25, .int .i64 a1, .int .i64 imm] w fun e w' => e = .returned (.bool true) ∧ Below w.heap.size w w' := by
  have r0 : Th.reachLo 25 false = -256 := rfl
  have r1 : Th.reachHi 25 false = 254 := rfl
  have r2 : Th.reachLo 25 true = -1048576 := rfl
  have r3 : Th.reachHi 25 true = 1048574 := rfl
  have hb : Below w.heap.size w w := Below.refl _ _
  go_enter Try.func6, Try.ntmps6
  go_wp2
  refine wp_loop_rounds 3 ?_
  iterate 3 (rw [rounds_succ]; go_wp2_with (first | (go_at_call 7; refine (reach_any _ _ _).mono ?_; rintro e w' ⟨rfl, rfl⟩) | (go_at_call 9; refine (check_any _ _ _ _ _ _ _ _ _).mono ?_; rintro e w' ⟨rfl, hb⟩; replace hb := bel_any hb (by first | assumption | exact bel_alloc (by assumption) _ | exact bel_alloc (bel_alloc (by assumption) _) _)) | (go_at_call 13; refine (lives_any _).mono ?_; rintro e w' ⟨rfl, hb⟩; replace hb := bel_any hb (by first | assumption | exact bel_alloc (by assumption) _))))
  go_ret
  exact ⟨rfl, hb⟩
set_option maxHeartbeats 4000000 in
theorem r25near (imm a1 : Int) (w : World) (he : (imm.tmod 2 == 0) = true) (l0 : -256 ≤ imm) (l1 : imm ≤ 254) (k0 : 0 ≤ a1) (k1 : a1 ≤ 13)
    (c0 : Th.check ⟨25, 0, 0, 0, 0, imm, a1, false⟩ = 0) (c1 : Th.check ⟨25, 0, 0, 0, 0, imm, a1, true⟩ = 0) :
    Calls Try.prog 6 #[.int .i64 25, .int .i64 a1, .int .i64 imm] w fun e w' => e = .returned (.bool true) ∧ Below w.heap.size w w' := by
  have r0 : Th.reachLo 25 false = -256 := rfl
  have r1 : Th.reachHi 25 false = 254 := rfl
  have r2 : Th.reachLo 25 true = -1048576 := rfl
  have r3 : Th.reachHi 25 true = 1048574 := rfl
  have hb : Below w.heap.size w w := Below.refl _ _
  go_enter Try.func6, Try.ntmps6
  go_wp2
  refine wp_loop_rounds 3 ?_
  iterate 3 (rw [rounds_succ]; go_wp2_with (first | (go_at_call 7; refine (reach_any _ _ _).mono ?_; rintro e w' ⟨rfl, rfl⟩) | (go_at_call 9; refine (check_any _ _ _ _ _ _ _ _ _).mono ?_; rintro e w' ⟨rfl, hb⟩; replace hb := bel_any hb (by first | assumption | exact bel_alloc (by assumption) _ | exact bel_alloc (bel_alloc (by assumption) _) _)) | (go_at_call 13; refine (lives_any _).mono ?_; rintro e w' ⟨rfl, hb⟩; replace hb := bel_any hb (by first | assumption | exact bel_alloc (by assumption) _))))
  go_ret
  exact ⟨rfl, hb⟩
theorem walk (a0 : Int) (a1 : Int) (a2 : Int) (w0 : (Lit.int .i64 a0).wf = true) (w1 : (Lit.int .i64 a1).wf = true) (w2 : (Lit.int .i64 a2).wf = true) (w : World) :
    Calls Try.prog 6 #[.int .i64 a0, .int .i64 a1, .int .i64 a2] w fun e w' => e = .returned (.bool true) ∧ Below w.heap.size w w' := by
  by_cases hn : (a0 ≠ 24 ∧ a0 ≠ 25) ∨ a1 < 0 ∨ 13 < a1
  · exact first_no a0 a1 a2 w hn
  have k0 : 0 ≤ a1 := by omega
  have k1 : a1 ≤ 13 := by omega
  have h2 : a0 = 24 ∨ a0 = 25 := by omega
  rcases h2 with rfl | rfl
  · have z0 := Th.ok24 0 0 0 0 a2 0 false
    have z1 := Th.ok24 0 0 0 0 a2 0 true
    simp at z0 z1
    have y : ∀ wd, Th.check ⟨24, 0, 0, 0, 0, a2, 0, wd⟩ ≠ 0 → Th.check ⟨24, 0, 0, 0, 0, a2, 0, wd⟩ = 6 := fun wd h => by
      have hf : Th.fits ⟨24, 0, 0, 0, 0, a2, 0, wd⟩ = true := by simp [Th.fits, Th.known, Th.within, Th.most, Th.least, Th.none0]
      unfold Th.check at h ⊢
      rw [hf] at h ⊢
      simp only [if_true] at h ⊢
      split at h
      · rename_i hx; rw [if_pos hx]
      · exact absurd rfl h
    have q : (a2.tmod 2 == 0) = (a2 % 2 == 0) := tmod_two a2
    by_cases he : a2 % 2 = 0
    case neg => exact r24odd a2 a1 w (by rw [q]; simpa using he) k0 k1 (y _ (by omega)) (y _ (by omega))
    have he' : (a2.tmod 2 == 0) = true := by rw [q]; simpa using he
    by_cases g1 : a2 < -16777216
    · exact r24farlo a2 a1 w he' g1 k0 k1 (y _ (by omega)) (y _ (by omega))
    by_cases g2 : 16777214 < a2
    · exact r24farhi a2 a1 w he' he g2 (by omega) (by omega) k0 k1 (y _ (by omega)) (y _ (by omega))
    by_cases g3 : a2 < -2048
    · exact r24midlo a2 a1 w he' (by omega) g3 k0 k1 (y _ (by omega)) (by omega)
    by_cases g4 : 2046 < a2
    · exact r24midhi a2 a1 w he' he (by omega) g4 (by omega) (by omega) k0 k1 (y _ (by omega)) (by omega)
    exact r24near a2 a1 w he' (by omega) (by omega) k0 k1 (by omega) (by omega)
  · have z0 := Th.ok25 0 0 0 0 a2 a1 false
    have z1 := Th.ok25 0 0 0 0 a2 a1 true
    simp at z0 z1
    have y : ∀ wd, Th.check ⟨25, 0, 0, 0, 0, a2, a1, wd⟩ ≠ 0 → Th.check ⟨25, 0, 0, 0, 0, a2, a1, wd⟩ = 6 := fun wd h => by
      have hf : Th.fits ⟨25, 0, 0, 0, 0, a2, a1, wd⟩ = true := by simp [Th.fits, Th.known, Th.within, Th.most, Th.least, Th.none0, k0, k1]
      unfold Th.check at h ⊢
      rw [hf] at h ⊢
      simp only [if_true] at h ⊢
      split at h
      · rename_i hx; rw [if_pos hx]
      · exact absurd rfl h
    have q : (a2.tmod 2 == 0) = (a2 % 2 == 0) := tmod_two a2
    by_cases he : a2 % 2 = 0
    case neg => exact r25odd a2 a1 w (by rw [q]; simpa using he) k0 k1 (y _ (by omega)) (y _ (by omega))
    have he' : (a2.tmod 2 == 0) = true := by rw [q]; simpa using he
    by_cases g1 : a2 < -1048576
    · exact r25farlo a2 a1 w he' g1 k0 k1 (y _ (by omega)) (y _ (by omega))
    by_cases g2 : 1048574 < a2
    · exact r25farhi a2 a1 w he' he g2 (by omega) (by omega) k0 k1 (y _ (by omega)) (y _ (by omega))
    by_cases g3 : a2 < -256
    · exact r25midlo a2 a1 w he' (by omega) g3 k0 k1 (y _ (by omega)) (by omega)
    by_cases g4 : 254 < a2
    · exact r25midhi a2 a1 w he' he (by omega) g4 (by omega) (by omega) k0 k1 (y _ (by omega)) (by omega)
    exact r25near a2 a1 w he' (by omega) (by omega) k0 k1 (by omega) (by omega)

set_option maxRecDepth 100000 in
theorem lifted (os : Os) (started : os.Started) (H : Type) (enc : TypeId × Value → H) :
    ReturnsInHanded {} Try.checked os 6 .any (Rows.thumbReachSpec.pre6 enc Try.prog Try.f6 Rows.thumbReachRow.domain false) (Rows.thumbReachSpec.post enc Try.prog Try.f6 false true false false) := by
  refine returnsInHanded_of_change (C := Try.checked) own started (by kernel_rfl) Try.func6
    (ChangeSpec.witness6 (enc := enc) (C := Try.checked) false ⟨#[], #[.int .i64 0, .int .i64 0, .int .i64 0], []⟩ 8 (by kernel_rfl) (by kernel_rfl) (by kernel_rfl) (by kernel_rfl)) ?_
  intro W base args ds gs before hval0 hW hcnd _
  have hval : ∀ (j : Nat) t v, Try.f6.params[j]? = some t → args[j]? = some v → Value.okWide Try.prog W .any base t v := hval0
  have hW' := hW
  obtain ⟨p, q, hA0, hV, rfl, hfz, hnd⟩ := hW
  have hA : DataW.TrodAll enc Try.prog W 0 (fun _ => true) true Try.f6.params.toList args.toList ds p := hA0
  rw [Try.params6] at hA hval
  obtain ⟨v0, vs0, d0, ds0, p0, q0, hargs, rfl, rfl, h0, r0⟩ := trodAll_cons hA
  obtain ⟨v1, vs1, d1, ds1, p1, q1, rfl, rfl, rfl, h1, r1⟩ := trodAll_cons r0
  obtain ⟨v2, vs2, d2, ds2, p2, q2, rfl, rfl, rfl, h2, r2⟩ := trodAll_cons r1
  obtain ⟨rfl, rfl, rfl⟩ := trodAll_nil r2
  obtain rfl : args = #[v0, v1, v2] := by cases args; simp_all
  obtain ⟨rfl, rfl⟩ := trodVars_none hV
  obtain ⟨a0, rfl, rfl, rfl, w0⟩ := open_int Try.underlying3 (hval 0 3 v0 rfl rfl) h0
  obtain ⟨a1, rfl, rfl, rfl, w1⟩ := open_int Try.underlying3 (hval 1 3 v1 rfl rfl) h1
  obtain ⟨a2, rfl, rfl, rfl, w2⟩ := open_int Try.underlying3 (hval 2 3 v2 rfl rfl) h2
  clear hA0 hval0
  refine (walk a0 a1 a2 w0 w1 w2 W).mono fun e W' ⟨he, bel⟩ => ?_
  subst he
  exact ⟨_, rfl, _, _, _, [], _, [], hW', trodAll_mk1 (shut_bool Try.underlying4 _), (trodAll_cons_mk (shut_int Try.underlying3 w0) (trodAll_cons_mk (shut_int Try.underlying3 w1) (trodAll_cons_mk (shut_int Try.underlying3 w2) trodAll_mk0))), rfl, bel.frame _, fun h => by cases h⟩

theorem over : Rows.thumbReachRow.holds Try.pinned (OpenSpec.ofChange Rows.thumbReachSpec) :=
  OpenClaim.holds_of_wide 6 Try.f6 rfl rfl rfl rfl rfl rfl rfl ⟨rfl, rfl, rfl, rfl, rfl⟩ rfl rfl rfl rfl rfl (by kernel_rfl) Try.func6 (by kernel_rfl)
    (of_decide_eq_true (by kernel_rfl)) (by unfold Func.isWrapper; first | (rw [if_pos (by decide +kernel)]; kernel_rfl) | (rw [if_neg (by decide +kernel)]; exact ⟨rfl, rfl⟩))
    (fun os started H enc _ => lifted os started H enc)

/-- the statement -/
theorem proved : Rows.ThumbReachSaid := over
#print axioms proved
end Go.Proofs.Ytiblncogogfgbaa.thumbReach
