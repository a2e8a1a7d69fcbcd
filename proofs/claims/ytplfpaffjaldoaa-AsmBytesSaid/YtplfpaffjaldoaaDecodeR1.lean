/-
  What package decode's read returns.
-/
import Derived.Test.YtplfpaffjaldoaaDecodeC
import Derived.Test.YtplfpaffjaldoaaThumbS
import Derived.IntWalk
namespace Go.Proofs.Ytplfpaffjaldoaa
open Go.ChangeShapes Go.WideShapes Go.ChangeAt Go.RowKit
set_option linter.unusedVariables false

set_option maxHeartbeats 4000000 in
set_option maxRecDepth 100000 in
theorem read9 (x : Nat) (w : World) (hx : x < 4294967296) :
    Calls Try.prog 69 #[.int .i64 9, .int .u32 (x : Int)] w fun e w' => e = .returned (.agg #[.int .i64 9, .int .i64 (((De.pt x 8 4 : Nat) : Int)), .int .i64 (0), .int .i64 (((De.pt x 0 4 : Nat) : Int)), .int .i64 (0), .int .i64 (0), .int .i64 (0), .bool false]) ∧ Below w.heap.size w w' := by
  go_enter Try.func69, Try.ntmps69
  go_wp2_with (first | (go_at_call 77; refine (part_int _ _ _ _ hx (by decide) (by decide) (by decide) (by decide)).mono ?_; rintro e w' ⟨rfl, n, rfl⟩) | (go_at_call 78; refine (shift_any _ _ hx).mono ?_; rintro e w' ⟨rfl, n, rfl⟩))
  exact bodyPost_ret (v := (.agg #[.int .i64 9, .int .i64 (((De.pt x 8 4 : Nat) : Int)), .int .i64 (0), .int .i64 (((De.pt x 0 4 : Nat) : Int)), .int .i64 (0), .int .i64 (0), .int .i64 (0), .bool false])) (by simp [results, Try.results69, go_sem]) rfl ⟨rfl, by (go_grown; (try (refine below_drewN ?_ _; go_grown; (try (refine below_drewN ?_ _; go_grown; (try (refine below_drewN ?_ _; go_grown)))))))⟩
set_option maxHeartbeats 4000000 in
set_option maxRecDepth 100000 in
theorem read10 (x : Nat) (w : World) (hx : x < 4294967296) :
    Calls Try.prog 69 #[.int .i64 10, .int .u32 (x : Int)] w fun e w' => e = .returned (.agg #[.int .i64 10, .int .i64 (((De.pt x 8 4 : Nat) : Int)), .int .i64 (((De.pt x 16 4 : Nat) : Int)), .int .i64 (((De.pt x 0 4 : Nat) : Int)), .int .i64 (0), .int .i64 (0), .int .i64 (0), .bool false]) ∧ Below w.heap.size w w' := by
  go_enter Try.func69, Try.ntmps69
  go_wp2_with (first | (go_at_call 77; refine (part_int _ _ _ _ hx (by decide) (by decide) (by decide) (by decide)).mono ?_; rintro e w' ⟨rfl, n, rfl⟩) | (go_at_call 78; refine (shift_any _ _ hx).mono ?_; rintro e w' ⟨rfl, n, rfl⟩))
  exact bodyPost_ret (v := (.agg #[.int .i64 10, .int .i64 (((De.pt x 8 4 : Nat) : Int)), .int .i64 (((De.pt x 16 4 : Nat) : Int)), .int .i64 (((De.pt x 0 4 : Nat) : Int)), .int .i64 (0), .int .i64 (0), .int .i64 (0), .bool false])) (by simp [results, Try.results69, go_sem]) rfl ⟨rfl, by (go_grown; (try (refine below_drewN ?_ _; go_grown; (try (refine below_drewN ?_ _; go_grown; (try (refine below_drewN ?_ _; go_grown)))))))⟩
set_option maxHeartbeats 4000000 in
set_option maxRecDepth 100000 in
theorem read11 (x : Nat) (w : World) (hx : x < 4294967296) :
    Calls Try.prog 69 #[.int .i64 11, .int .u32 (x : Int)] w fun e w' => e = .returned (.agg #[.int .i64 11, .int .i64 (((De.pt x 8 4 : Nat) : Int)), .int .i64 (((De.pt x 16 4 : Nat) : Int)), .int .i64 (((De.pt x 0 4 : Nat) : Int)), .int .i64 (0), .int .i64 (0), .int .i64 (0), .bool false]) ∧ Below w.heap.size w w' := by
  go_enter Try.func69, Try.ntmps69
  go_wp2_with (first | (go_at_call 77; refine (part_int _ _ _ _ hx (by decide) (by decide) (by decide) (by decide)).mono ?_; rintro e w' ⟨rfl, n, rfl⟩) | (go_at_call 78; refine (shift_any _ _ hx).mono ?_; rintro e w' ⟨rfl, n, rfl⟩))
  exact bodyPost_ret (v := (.agg #[.int .i64 11, .int .i64 (((De.pt x 8 4 : Nat) : Int)), .int .i64 (((De.pt x 16 4 : Nat) : Int)), .int .i64 (((De.pt x 0 4 : Nat) : Int)), .int .i64 (0), .int .i64 (0), .int .i64 (0), .bool false])) (by simp [results, Try.results69, go_sem]) rfl ⟨rfl, by (go_grown; (try (refine below_drewN ?_ _; go_grown; (try (refine below_drewN ?_ _; go_grown; (try (refine below_drewN ?_ _; go_grown)))))))⟩
set_option maxHeartbeats 4000000 in
set_option maxRecDepth 100000 in
theorem read12 (x : Nat) (w : World) (hx : x < 4294967296) :
    Calls Try.prog 69 #[.int .i64 12, .int .u32 (x : Int)] w fun e w' => e = .returned (.agg #[.int .i64 12, .int .i64 (((De.pt x 8 4 : Nat) : Int)), .int .i64 (((De.pt x 16 4 : Nat) : Int)), .int .i64 (((De.pt x 0 4 : Nat) : Int)), .int .i64 (0), .int .i64 (0), .int .i64 (0), .bool false]) ∧ Below w.heap.size w w' := by
  go_enter Try.func69, Try.ntmps69
  go_wp2_with (first | (go_at_call 77; refine (part_int _ _ _ _ hx (by decide) (by decide) (by decide) (by decide)).mono ?_; rintro e w' ⟨rfl, n, rfl⟩) | (go_at_call 78; refine (shift_any _ _ hx).mono ?_; rintro e w' ⟨rfl, n, rfl⟩))
  exact bodyPost_ret (v := (.agg #[.int .i64 12, .int .i64 (((De.pt x 8 4 : Nat) : Int)), .int .i64 (((De.pt x 16 4 : Nat) : Int)), .int .i64 (((De.pt x 0 4 : Nat) : Int)), .int .i64 (0), .int .i64 (0), .int .i64 (0), .bool false])) (by simp [results, Try.results69, go_sem]) rfl ⟨rfl, by (go_grown; (try (refine below_drewN ?_ _; go_grown; (try (refine below_drewN ?_ _; go_grown; (try (refine below_drewN ?_ _; go_grown)))))))⟩
set_option maxHeartbeats 4000000 in
set_option maxRecDepth 100000 in
theorem read13 (x : Nat) (w : World) (hx : x < 4294967296) :
    Calls Try.prog 69 #[.int .i64 13, .int .u32 (x : Int)] w fun e w' => e = .returned (.agg #[.int .i64 13, .int .i64 (((De.pt x 8 4 : Nat) : Int)), .int .i64 (((De.pt x 16 4 : Nat) : Int)), .int .i64 (((De.pt x 0 4 : Nat) : Int)), .int .i64 (0), .int .i64 (0), .int .i64 (0), .bool false]) ∧ Below w.heap.size w w' := by
  go_enter Try.func69, Try.ntmps69
  go_wp2_with (first | (go_at_call 77; refine (part_int _ _ _ _ hx (by decide) (by decide) (by decide) (by decide)).mono ?_; rintro e w' ⟨rfl, n, rfl⟩) | (go_at_call 78; refine (shift_any _ _ hx).mono ?_; rintro e w' ⟨rfl, n, rfl⟩))
  exact bodyPost_ret (v := (.agg #[.int .i64 13, .int .i64 (((De.pt x 8 4 : Nat) : Int)), .int .i64 (((De.pt x 16 4 : Nat) : Int)), .int .i64 (((De.pt x 0 4 : Nat) : Int)), .int .i64 (0), .int .i64 (0), .int .i64 (0), .bool false])) (by simp [results, Try.results69, go_sem]) rfl ⟨rfl, by (go_grown; (try (refine below_drewN ?_ _; go_grown; (try (refine below_drewN ?_ _; go_grown; (try (refine below_drewN ?_ _; go_grown)))))))⟩
set_option maxHeartbeats 4000000 in
set_option maxRecDepth 100000 in
theorem read14 (x : Nat) (w : World) (hx : x < 4294967296) :
    Calls Try.prog 69 #[.int .i64 14, .int .u32 (x : Int)] w fun e w' => e = .returned (.agg #[.int .i64 14, .int .i64 (((De.pt x 8 4 : Nat) : Int)), .int .i64 (((De.pt x 16 4 : Nat) : Int)), .int .i64 (((De.pt x 0 4 : Nat) : Int)), .int .i64 (0), .int .i64 (0), .int .i64 (0), .bool false]) ∧ Below w.heap.size w w' := by
  go_enter Try.func69, Try.ntmps69
  go_wp2_with (first | (go_at_call 77; refine (part_int _ _ _ _ hx (by decide) (by decide) (by decide) (by decide)).mono ?_; rintro e w' ⟨rfl, n, rfl⟩) | (go_at_call 78; refine (shift_any _ _ hx).mono ?_; rintro e w' ⟨rfl, n, rfl⟩))
  exact bodyPost_ret (v := (.agg #[.int .i64 14, .int .i64 (((De.pt x 8 4 : Nat) : Int)), .int .i64 (((De.pt x 16 4 : Nat) : Int)), .int .i64 (((De.pt x 0 4 : Nat) : Int)), .int .i64 (0), .int .i64 (0), .int .i64 (0), .bool false])) (by simp [results, Try.results69, go_sem]) rfl ⟨rfl, by (go_grown; (try (refine below_drewN ?_ _; go_grown; (try (refine below_drewN ?_ _; go_grown; (try (refine below_drewN ?_ _; go_grown)))))))⟩
set_option maxHeartbeats 4000000 in
set_option maxRecDepth 100000 in
theorem read15 (x : Nat) (w : World) (hx : x < 4294967296) :
    Calls Try.prog 69 #[.int .i64 15, .int .u32 (x : Int)] w fun e w' => e = .returned (.agg #[.int .i64 15, .int .i64 (((De.pt x 8 4 : Nat) : Int)), .int .i64 (((De.pt x 16 4 : Nat) : Int)), .int .i64 (((De.pt x 0 4 : Nat) : Int)), .int .i64 (0), .int .i64 (0), .int .i64 (0), .bool false]) ∧ Below w.heap.size w w' := by
  go_enter Try.func69, Try.ntmps69
  go_wp2_with (first | (go_at_call 77; refine (part_int _ _ _ _ hx (by decide) (by decide) (by decide) (by decide)).mono ?_; rintro e w' ⟨rfl, n, rfl⟩) | (go_at_call 78; refine (shift_any _ _ hx).mono ?_; rintro e w' ⟨rfl, n, rfl⟩))
  exact bodyPost_ret (v := (.agg #[.int .i64 15, .int .i64 (((De.pt x 8 4 : Nat) : Int)), .int .i64 (((De.pt x 16 4 : Nat) : Int)), .int .i64 (((De.pt x 0 4 : Nat) : Int)), .int .i64 (0), .int .i64 (0), .int .i64 (0), .bool false])) (by simp [results, Try.results69, go_sem]) rfl ⟨rfl, by (go_grown; (try (refine below_drewN ?_ _; go_grown; (try (refine below_drewN ?_ _; go_grown; (try (refine below_drewN ?_ _; go_grown)))))))⟩
set_option maxHeartbeats 4000000 in
set_option maxRecDepth 100000 in
theorem read16 (x : Nat) (w : World) (hx : x < 4294967296) :
    Calls Try.prog 69 #[.int .i64 16, .int .u32 (x : Int)] w fun e w' => e = .returned (.agg #[.int .i64 16, .int .i64 (((De.pt x 8 4 : Nat) : Int)), .int .i64 (((De.pt x 16 4 : Nat) : Int)), .int .i64 (((De.pt x 0 4 : Nat) : Int)), .int .i64 (0), .int .i64 (0), .int .i64 (0), .bool false]) ∧ Below w.heap.size w w' := by
  go_enter Try.func69, Try.ntmps69
  go_wp2_with (first | (go_at_call 77; refine (part_int _ _ _ _ hx (by decide) (by decide) (by decide) (by decide)).mono ?_; rintro e w' ⟨rfl, n, rfl⟩) | (go_at_call 78; refine (shift_any _ _ hx).mono ?_; rintro e w' ⟨rfl, n, rfl⟩))
  exact bodyPost_ret (v := (.agg #[.int .i64 16, .int .i64 (((De.pt x 8 4 : Nat) : Int)), .int .i64 (((De.pt x 16 4 : Nat) : Int)), .int .i64 (((De.pt x 0 4 : Nat) : Int)), .int .i64 (0), .int .i64 (0), .int .i64 (0), .bool false])) (by simp [results, Try.results69, go_sem]) rfl ⟨rfl, by (go_grown; (try (refine below_drewN ?_ _; go_grown; (try (refine below_drewN ?_ _; go_grown; (try (refine below_drewN ?_ _; go_grown)))))))⟩
end Go.Proofs.Ytplfpaffjaldoaa
