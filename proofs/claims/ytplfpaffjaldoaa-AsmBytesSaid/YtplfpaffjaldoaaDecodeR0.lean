/-
  What package decode's read returns.
-/
import Derived.Test.YtplfpaffjaldoaaDecodeC
import Derived.Test.YtplfpaffjaldoaaThumbS
import Derived.IntWalk
namespace Go.Proofs.Ytplfpaffjaldoaa
open Go.ChangeShapes Go.WideShapes Go.ChangeAt Go.RowKit
set_option linter.unusedVariables false

set_option maxHeartbeats 4000000 in
set_option maxRecDepth 100000 in
theorem read0 (x : Nat) (w : World) (hx : x < 4294967296) :
    Calls Try.prog 69 #[.int .i64 0, .int .u32 (x : Int)] w fun e w' => e = .returned (.agg #[.int .i64 0, .int .i64 (0), .int .i64 (0), .int .i64 (0), .int .i64 (0), .int .i64 (0), .int .i64 (0), .bool false]) ∧ Below w.heap.size w w' := by
  go_enter Try.func69, Try.ntmps69
  go_wp2_with (first | (go_at_call 77; refine (part_int _ _ _ _ hx (by decide) (by decide) (by decide) (by decide)).mono ?_; rintro e w' ⟨rfl, n, rfl⟩) | (go_at_call 78; refine (shift_any _ _ hx).mono ?_; rintro e w' ⟨rfl, n, rfl⟩))
  exact bodyPost_ret (v := (.agg #[.int .i64 0, .int .i64 (0), .int .i64 (0), .int .i64 (0), .int .i64 (0), .int .i64 (0), .int .i64 (0), .bool false])) (by simp [results, Try.results69, go_sem]) rfl ⟨rfl, by (go_grown; (try (refine below_drewN ?_ _; go_grown; (try (refine below_drewN ?_ _; go_grown; (try (refine below_drewN ?_ _; go_grown)))))))⟩
set_option maxHeartbeats 4000000 in
set_option maxRecDepth 100000 in
theorem read1 (x : Nat) (w : World) (hx : x < 4294967296) :
    Calls Try.prog 69 #[.int .i64 1, .int .u32 (x : Int)] w fun e w' => e = .returned (.agg #[.int .i64 1, .int .i64 (0), .int .i64 (0), .int .i64 (0), .int .i64 (0), .int .i64 (0), .int .i64 (0), .bool false]) ∧ Below w.heap.size w w' := by
  go_enter Try.func69, Try.ntmps69
  go_wp2_with (first | (go_at_call 77; refine (part_int _ _ _ _ hx (by decide) (by decide) (by decide) (by decide)).mono ?_; rintro e w' ⟨rfl, n, rfl⟩) | (go_at_call 78; refine (shift_any _ _ hx).mono ?_; rintro e w' ⟨rfl, n, rfl⟩))
  exact bodyPost_ret (v := (.agg #[.int .i64 1, .int .i64 (0), .int .i64 (0), .int .i64 (0), .int .i64 (0), .int .i64 (0), .int .i64 (0), .bool false])) (by simp [results, Try.results69, go_sem]) rfl ⟨rfl, by (go_grown; (try (refine below_drewN ?_ _; go_grown; (try (refine below_drewN ?_ _; go_grown; (try (refine below_drewN ?_ _; go_grown)))))))⟩
set_option maxHeartbeats 4000000 in
set_option maxRecDepth 100000 in
theorem read2 (x : Nat) (w : World) (hx : x < 4294967296) :
    Calls Try.prog 69 #[.int .i64 2, .int .u32 (x : Int)] w fun e w' => e = .returned (.agg #[.int .i64 2, .int .i64 (0), .int .i64 (0), .int .i64 (0), .int .i64 (0), .int .i64 (((De.pt x 0 8 : Nat) : Int)), .int .i64 (0), .bool false]) ∧ Below w.heap.size w w' := by
  go_enter Try.func69, Try.ntmps69
  go_wp2_with (first | (go_at_call 77; refine (part_int _ _ _ _ hx (by decide) (by decide) (by decide) (by decide)).mono ?_; rintro e w' ⟨rfl, n, rfl⟩) | (go_at_call 78; refine (shift_any _ _ hx).mono ?_; rintro e w' ⟨rfl, n, rfl⟩))
  exact bodyPost_ret (v := (.agg #[.int .i64 2, .int .i64 (0), .int .i64 (0), .int .i64 (0), .int .i64 (0), .int .i64 (((De.pt x 0 8 : Nat) : Int)), .int .i64 (0), .bool false])) (by simp [results, Try.results69, go_sem]) rfl ⟨rfl, by (go_grown; (try (refine below_drewN ?_ _; go_grown; (try (refine below_drewN ?_ _; go_grown; (try (refine below_drewN ?_ _; go_grown)))))))⟩
set_option maxHeartbeats 4000000 in
set_option maxRecDepth 100000 in
theorem read3 (x : Nat) (w : World) (hx : x < 4294967296) :
    Calls Try.prog 69 #[.int .i64 3, .int .u32 (x : Int)] w fun e w' => e = .returned (.agg #[.int .i64 3, .int .i64 (((De.pt x 8 4 : Nat) : Int)), .int .i64 (0), .int .i64 (0), .int .i64 (0), .int .i64 (((De.imm16 x : Nat) : Int)), .int .i64 (0), .bool false]) ∧ Below w.heap.size w w' := by
  have b0 : De.pt x 16 4 < 16 := De.pt_lt x _ 4
  have b1 : De.pt x 26 1 < 2 := De.pt_lt x _ 1
  have b2 : De.pt x 12 3 < 8 := De.pt_lt x _ 3
  have b3 : De.pt x 0 8 < 256 := De.pt_lt x _ 8
  have hT : Hid (De.imm16 x < 65536) := Lib.hid (by unfold De.imm16; omega)
  have hI : (bits .or .i64 (bits .or .i64 (bits .or .i64 (wrap64 (((De.pt x 16 4 : Nat) : Int) * 4096)) (wrap64 (((De.pt x 26 1 : Nat) : Int) * 2048))) (wrap64 (((De.pt x 12 3 : Nat) : Int) * 256))) (((De.pt x 0 8 : Nat) : Int))) = ((De.imm16 x : Nat) : Int) := or_imm16 (De.pt x 16 4) (De.pt x 26 1) (De.pt x 12 3) (De.pt x 0 8) b0 b1 b2 b3
  clear b0 b1 b2 b3
  go_enter Try.func69, Try.ntmps69
  go_wp2_with (first | (go_at_call 77; refine (part_int _ _ _ _ hx (by decide) (by decide) (by decide) (by decide)).mono ?_; rintro e w' ⟨rfl, n, rfl⟩) | (go_at_call 78; refine (shift_any _ _ hx).mono ?_; rintro e w' ⟨rfl, n, rfl⟩))
  exact bodyPost_ret (v := (.agg #[.int .i64 3, .int .i64 (((De.pt x 8 4 : Nat) : Int)), .int .i64 (0), .int .i64 (0), .int .i64 (0), .int .i64 (((De.imm16 x : Nat) : Int)), .int .i64 (0), .bool false])) (by simp [results, Try.results69, go_sem]) rfl ⟨rfl, by (go_grown; (try (refine below_drewN ?_ _; go_grown; (try (refine below_drewN ?_ _; go_grown; (try (refine below_drewN ?_ _; go_grown)))))))⟩
set_option maxHeartbeats 4000000 in
set_option maxRecDepth 100000 in
theorem read4 (x : Nat) (w : World) (hx : x < 4294967296) :
    Calls Try.prog 69 #[.int .i64 4, .int .u32 (x : Int)] w fun e w' => e = .returned (.agg #[.int .i64 4, .int .i64 (((De.pt x 8 4 : Nat) : Int)), .int .i64 (0), .int .i64 (0), .int .i64 (0), .int .i64 (((De.imm16 x : Nat) : Int)), .int .i64 (0), .bool false]) ∧ Below w.heap.size w w' := by
  have b0 : De.pt x 16 4 < 16 := De.pt_lt x _ 4
  have b1 : De.pt x 26 1 < 2 := De.pt_lt x _ 1
  have b2 : De.pt x 12 3 < 8 := De.pt_lt x _ 3
  have b3 : De.pt x 0 8 < 256 := De.pt_lt x _ 8
  have hT : Hid (De.imm16 x < 65536) := Lib.hid (by unfold De.imm16; omega)
  have hI : (bits .or .i64 (bits .or .i64 (bits .or .i64 (wrap64 (((De.pt x 16 4 : Nat) : Int) * 4096)) (wrap64 (((De.pt x 26 1 : Nat) : Int) * 2048))) (wrap64 (((De.pt x 12 3 : Nat) : Int) * 256))) (((De.pt x 0 8 : Nat) : Int))) = ((De.imm16 x : Nat) : Int) := or_imm16 (De.pt x 16 4) (De.pt x 26 1) (De.pt x 12 3) (De.pt x 0 8) b0 b1 b2 b3
  clear b0 b1 b2 b3
  go_enter Try.func69, Try.ntmps69
  go_wp2_with (first | (go_at_call 77; refine (part_int _ _ _ _ hx (by decide) (by decide) (by decide) (by decide)).mono ?_; rintro e w' ⟨rfl, n, rfl⟩) | (go_at_call 78; refine (shift_any _ _ hx).mono ?_; rintro e w' ⟨rfl, n, rfl⟩))
  exact bodyPost_ret (v := (.agg #[.int .i64 4, .int .i64 (((De.pt x 8 4 : Nat) : Int)), .int .i64 (0), .int .i64 (0), .int .i64 (0), .int .i64 (((De.imm16 x : Nat) : Int)), .int .i64 (0), .bool false])) (by simp [results, Try.results69, go_sem]) rfl ⟨rfl, by (go_grown; (try (refine below_drewN ?_ _; go_grown; (try (refine below_drewN ?_ _; go_grown; (try (refine below_drewN ?_ _; go_grown)))))))⟩
set_option maxHeartbeats 4000000 in
set_option maxRecDepth 100000 in
theorem read5 (x : Nat) (w : World) (hx : x < 4294967296) :
    Calls Try.prog 69 #[.int .i64 5, .int .u32 (x : Int)] w fun e w' => e = .returned (.agg #[.int .i64 5, .int .i64 (((De.pt x 8 4 : Nat) : Int)), .int .i64 (0), .int .i64 (((De.pt x 0 4 : Nat) : Int)), .int .i64 (0), .int .i64 (((De.shift x : Nat) : Int)), .int .i64 (0), .bool false]) ∧ Below w.heap.size w w' := by
  go_enter Try.func69, Try.ntmps69
  go_wp2_with (first | (go_at_call 77; refine (part_int _ _ _ _ hx (by decide) (by decide) (by decide) (by decide)).mono ?_; rintro e w' ⟨rfl, n, rfl⟩) | (go_at_call 78; refine (shift_any _ _ hx).mono ?_; rintro e w' ⟨rfl, n, rfl⟩))
  exact bodyPost_ret (v := (.agg #[.int .i64 5, .int .i64 (((De.pt x 8 4 : Nat) : Int)), .int .i64 (0), .int .i64 (((De.pt x 0 4 : Nat) : Int)), .int .i64 (0), .int .i64 (((De.shift x : Nat) : Int)), .int .i64 (0), .bool false])) (by simp [results, Try.results69, go_sem]) rfl ⟨rfl, by (go_grown; (try (refine below_drewN ?_ _; go_grown; (try (refine below_drewN ?_ _; go_grown; (try (refine below_drewN ?_ _; go_grown)))))))⟩
set_option maxHeartbeats 4000000 in
set_option maxRecDepth 100000 in
theorem read6 (x : Nat) (w : World) (hx : x < 4294967296) :
    Calls Try.prog 69 #[.int .i64 6, .int .u32 (x : Int)] w fun e w' => e = .returned (.agg #[.int .i64 6, .int .i64 (((De.pt x 8 4 : Nat) : Int)), .int .i64 (0), .int .i64 (((De.pt x 0 4 : Nat) : Int)), .int .i64 (0), .int .i64 (((De.shift x : Nat) : Int)), .int .i64 (0), .bool false]) ∧ Below w.heap.size w w' := by
  go_enter Try.func69, Try.ntmps69
  go_wp2_with (first | (go_at_call 77; refine (part_int _ _ _ _ hx (by decide) (by decide) (by decide) (by decide)).mono ?_; rintro e w' ⟨rfl, n, rfl⟩) | (go_at_call 78; refine (shift_any _ _ hx).mono ?_; rintro e w' ⟨rfl, n, rfl⟩))
  exact bodyPost_ret (v := (.agg #[.int .i64 6, .int .i64 (((De.pt x 8 4 : Nat) : Int)), .int .i64 (0), .int .i64 (((De.pt x 0 4 : Nat) : Int)), .int .i64 (0), .int .i64 (((De.shift x : Nat) : Int)), .int .i64 (0), .bool false])) (by simp [results, Try.results69, go_sem]) rfl ⟨rfl, by (go_grown; (try (refine below_drewN ?_ _; go_grown; (try (refine below_drewN ?_ _; go_grown; (try (refine below_drewN ?_ _; go_grown)))))))⟩
set_option maxHeartbeats 4000000 in
set_option maxRecDepth 100000 in
theorem read7 (x : Nat) (w : World) (hx : x < 4294967296) :
    Calls Try.prog 69 #[.int .i64 7, .int .u32 (x : Int)] w fun e w' => e = .returned (.agg #[.int .i64 7, .int .i64 (((De.pt x 8 4 : Nat) : Int)), .int .i64 (0), .int .i64 (((De.pt x 0 4 : Nat) : Int)), .int .i64 (0), .int .i64 (((De.shift x : Nat) : Int)), .int .i64 (0), .bool false]) ∧ Below w.heap.size w w' := by
  go_enter Try.func69, Try.ntmps69
  go_wp2_with (first | (go_at_call 77; refine (part_int _ _ _ _ hx (by decide) (by decide) (by decide) (by decide)).mono ?_; rintro e w' ⟨rfl, n, rfl⟩) | (go_at_call 78; refine (shift_any _ _ hx).mono ?_; rintro e w' ⟨rfl, n, rfl⟩))
  exact bodyPost_ret (v := (.agg #[.int .i64 7, .int .i64 (((De.pt x 8 4 : Nat) : Int)), .int .i64 (0), .int .i64 (((De.pt x 0 4 : Nat) : Int)), .int .i64 (0), .int .i64 (((De.shift x : Nat) : Int)), .int .i64 (0), .bool false])) (by simp [results, Try.results69, go_sem]) rfl ⟨rfl, by (go_grown; (try (refine below_drewN ?_ _; go_grown; (try (refine below_drewN ?_ _; go_grown; (try (refine below_drewN ?_ _; go_grown)))))))⟩
set_option maxHeartbeats 4000000 in
set_option maxRecDepth 100000 in
theorem read8 (x : Nat) (w : World) (hx : x < 4294967296) :
    Calls Try.prog 69 #[.int .i64 8, .int .u32 (x : Int)] w fun e w' => e = .returned (.agg #[.int .i64 8, .int .i64 (((De.pt x 8 4 : Nat) : Int)), .int .i64 (0), .int .i64 (((De.pt x 0 4 : Nat) : Int)), .int .i64 (0), .int .i64 (((De.shift x : Nat) : Int)), .int .i64 (0), .bool false]) ∧ Below w.heap.size w w' := by
  go_enter Try.func69, Try.ntmps69
  go_wp2_with (first | (go_at_call 77; refine (part_int _ _ _ _ hx (by decide) (by decide) (by decide) (by decide)).mono ?_; rintro e w' ⟨rfl, n, rfl⟩) | (go_at_call 78; refine (shift_any _ _ hx).mono ?_; rintro e w' ⟨rfl, n, rfl⟩))
  exact bodyPost_ret (v := (.agg #[.int .i64 8, .int .i64 (((De.pt x 8 4 : Nat) : Int)), .int .i64 (0), .int .i64 (((De.pt x 0 4 : Nat) : Int)), .int .i64 (0), .int .i64 (((De.shift x : Nat) : Int)), .int .i64 (0), .bool false])) (by simp [results, Try.results69, go_sem]) rfl ⟨rfl, by (go_grown; (try (refine below_drewN ?_ _; go_grown; (try (refine below_drewN ?_ _; go_grown; (try (refine below_drewN ?_ _; go_grown)))))))⟩
end Go.Proofs.Ytplfpaffjaldoaa
