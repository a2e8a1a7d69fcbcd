/-
What package decode's read returns.
What package decode's read returns.
-/
import Derived.IntWalk
import Derived.Test.YthciobjklhkkcaaGreatP08c
import Derived.Test.YthciobjklhkkcaaGreatP01a
section
namespace Go.Proofs.YthciobjklhkkcaaGreat
open Go.ChangeShapes Go.WideShapes Go.ChangeAt Go.RowKit
set_option maxHeartbeats 4000000
set_option maxRecDepth 100000
set_option linter.unusedVariables false

theorem read0 (x : Nat) (w : World) (hx : x < 4294967296) :
  Calls Tryz.prog 109 #[.int .i64 0, .int .u32 (x : Int)] w fun e w' => e = .returned (.agg #[.int .i64 0, .int .i64 (0), .int .i64 (0), .int .i64 (0), .int .i64 (0), .int .i64 (0), .int .i64 (0), .bool false]) ∧ Below w.heap.size w w' := by
 go_enter Tryz.func109, Tryz.ntmps109
 go_wp2_with (first | (go_at_call 142; refine (part_int _ _ _ _ hx (by decide) (by decide) (by decide) (by decide)).mono ?_; rintro e w' ⟨rfl, n, rfl⟩) | (go_at_call 143; refine (shift_any _ _ hx).mono ?_; rintro e w' ⟨rfl, n, rfl⟩))
 exact bodyPost_ret (v := (.agg #[.int .i64 0, .int .i64 (0), .int .i64 (0), .int .i64 (0), .int .i64 (0), .int .i64 (0), .int .i64 (0), .bool false])) (by simp [results, Tryz.results109, go_sem]) rfl ⟨rfl, by (go_grown; (try (refine below_drewN ?_ _; go_grown; (try (refine below_drewN ?_ _; go_grown; (try (refine below_drewN ?_ _; go_grown)))))))⟩
theorem read1 (x : Nat) (w : World) (hx : x < 4294967296) :
  Calls Tryz.prog 109 #[.int .i64 1, .int .u32 (x : Int)] w fun e w' => e = .returned (.agg #[.int .i64 1, .int .i64 (0), .int .i64 (0), .int .i64 (0), .int .i64 (0), .int .i64 (0), .int .i64 (0), .bool false]) ∧ Below w.heap.size w w' := by
 go_enter Tryz.func109, Tryz.ntmps109
 go_wp2_with (first | (go_at_call 142; refine (part_int _ _ _ _ hx (by decide) (by decide) (by decide) (by decide)).mono ?_; rintro e w' ⟨rfl, n, rfl⟩) | (go_at_call 143; refine (shift_any _ _ hx).mono ?_; rintro e w' ⟨rfl, n, rfl⟩))
 exact bodyPost_ret (v := (.agg #[.int .i64 1, .int .i64 (0), .int .i64 (0), .int .i64 (0), .int .i64 (0), .int .i64 (0), .int .i64 (0), .bool false])) (by simp [results, Tryz.results109, go_sem]) rfl ⟨rfl, by (go_grown; (try (refine below_drewN ?_ _; go_grown; (try (refine below_drewN ?_ _; go_grown; (try (refine below_drewN ?_ _; go_grown)))))))⟩
theorem read2 (x : Nat) (w : World) (hx : x < 4294967296) :
  Calls Tryz.prog 109 #[.int .i64 2, .int .u32 (x : Int)] w fun e w' => e = .returned (.agg #[.int .i64 2, .int .i64 (0), .int .i64 (0), .int .i64 (0), .int .i64 (0), .int .i64 (((De.pt x 0 8 : Nat) : Int)), .int .i64 (0), .bool false]) ∧ Below w.heap.size w w' := by
 go_enter Tryz.func109, Tryz.ntmps109
 go_wp2_with (first | (go_at_call 142; refine (part_int _ _ _ _ hx (by decide) (by decide) (by decide) (by decide)).mono ?_; rintro e w' ⟨rfl, n, rfl⟩) | (go_at_call 143; refine (shift_any _ _ hx).mono ?_; rintro e w' ⟨rfl, n, rfl⟩))
 exact bodyPost_ret (v := (.agg #[.int .i64 2, .int .i64 (0), .int .i64 (0), .int .i64 (0), .int .i64 (0), .int .i64 (((De.pt x 0 8 : Nat) : Int)), .int .i64 (0), .bool false])) (by simp [results, Tryz.results109, go_sem]) rfl ⟨rfl, by (go_grown; (try (refine below_drewN ?_ _; go_grown; (try (refine below_drewN ?_ _; go_grown; (try (refine below_drewN ?_ _; go_grown)))))))⟩
theorem read3 (x : Nat) (w : World) (hx : x < 4294967296) :
  Calls Tryz.prog 109 #[.int .i64 3, .int .u32 (x : Int)] w fun e w' => e = .returned (.agg #[.int .i64 3, .int .i64 (((De.pt x 8 4 : Nat) : Int)), .int .i64 (0), .int .i64 (0), .int .i64 (0), .int .i64 (((De.imm16 x : Nat) : Int)), .int .i64 (0), .bool false]) ∧ Below w.heap.size w w' := by
 have b0 : De.pt x 16 4 < 16 := De.pt_lt x _ 4
 have b1 : De.pt x 26 1 < 2 := De.pt_lt x _ 1
 have b2 : De.pt x 12 3 < 8 := De.pt_lt x _ 3
 have b3 : De.pt x 0 8 < 256 := De.pt_lt x _ 8
 have hT : Hid (De.imm16 x < 65536) := Lib.hid (by unfold De.imm16; omega)
 have hI : (bits .or .i64 (bits .or .i64 (bits .or .i64 (wrap64 (((De.pt x 16 4 : Nat) : Int) * 4096)) (wrap64 (((De.pt x 26 1 : Nat) : Int) * 2048))) (wrap64 (((De.pt x 12 3 : Nat) : Int) * 256))) (((De.pt x 0 8 : Nat) : Int))) = ((De.imm16 x : Nat) : Int) := or_imm16 (De.pt x 16 4) (De.pt x 26 1) (De.pt x 12 3) (De.pt x 0 8) b0 b1 b2 b3
 clear b0 b1 b2 b3
 go_enter Tryz.func109, Tryz.ntmps109
 go_wp2_with (first | (go_at_call 142; refine (part_int _ _ _ _ hx (by decide) (by decide) (by decide) (by decide)).mono ?_; rintro e w' ⟨rfl, n, rfl⟩) | (go_at_call 143; refine (shift_any _ _ hx).mono ?_; rintro e w' ⟨rfl, n, rfl⟩))
 exact bodyPost_ret (v := (.agg #[.int .i64 3, .int .i64 (((De.pt x 8 4 : Nat) : Int)), .int .i64 (0), .int .i64 (0), .int .i64 (0), .int .i64 (((De.imm16 x : Nat) : Int)), .int .i64 (0), .bool false])) (by simp [results, Tryz.results109, go_sem]) rfl ⟨rfl, by (go_grown; (try (refine below_drewN ?_ _; go_grown; (try (refine below_drewN ?_ _; go_grown; (try (refine below_drewN ?_ _; go_grown)))))))⟩
theorem read4 (x : Nat) (w : World) (hx : x < 4294967296) :
  Calls Tryz.prog 109 #[.int .i64 4, .int .u32 (x : Int)] w fun e w' => e = .returned (.agg #[.int .i64 4, .int .i64 (((De.pt x 8 4 : Nat) : Int)), .int .i64 (0), .int .i64 (0), .int .i64 (0), .int .i64 (((De.imm16 x : Nat) : Int)), .int .i64 (0), .bool false]) ∧ Below w.heap.size w w' := by
 have b0 : De.pt x 16 4 < 16 := De.pt_lt x _ 4
 have b1 : De.pt x 26 1 < 2 := De.pt_lt x _ 1
 have b2 : De.pt x 12 3 < 8 := De.pt_lt x _ 3
 have b3 : De.pt x 0 8 < 256 := De.pt_lt x _ 8
 have hT : Hid (De.imm16 x < 65536) := Lib.hid (by unfold De.imm16; omega)
 have hI : (bits .or .i64 (bits .or .i64 (bits .or .i64 (wrap64 (((De.pt x 16 4 : Nat) : Int) * 4096)) (wrap64 (((De.pt x 26 1 : Nat) : Int) * 2048))) (wrap64 (((De.pt x 12 3 : Nat) : Int) * 256))) (((De.pt x 0 8 : Nat) : Int))) = ((De.imm16 x : Nat) : Int) := or_imm16 (De.pt x 16 4) (De.pt x 26 1) (De.pt x 12 3) (De.pt x 0 8) b0 b1 b2 b3
 clear b0 b1 b2 b3
 go_enter Tryz.func109, Tryz.ntmps109
 go_wp2_with (first | (go_at_call 142; refine (part_int _ _ _ _ hx (by decide) (by decide) (by decide) (by decide)).mono ?_; rintro e w' ⟨rfl, n, rfl⟩) | (go_at_call 143; refine (shift_any _ _ hx).mono ?_; rintro e w' ⟨rfl, n, rfl⟩))
 exact bodyPost_ret (v := (.agg #[.int .i64 4, .int .i64 (((De.pt x 8 4 : Nat) : Int)), .int .i64 (0), .int .i64 (0), .int .i64 (0), .int .i64 (((De.imm16 x : Nat) : Int)), .int .i64 (0), .bool false])) (by simp [results, Tryz.results109, go_sem]) rfl ⟨rfl, by (go_grown; (try (refine below_drewN ?_ _; go_grown; (try (refine below_drewN ?_ _; go_grown; (try (refine below_drewN ?_ _; go_grown)))))))⟩
theorem read5 (x : Nat) (w : World) (hx : x < 4294967296) :
  Calls Tryz.prog 109 #[.int .i64 5, .int .u32 (x : Int)] w fun e w' => e = .returned (.agg #[.int .i64 5, .int .i64 (((De.pt x 8 4 : Nat) : Int)), .int .i64 (0), .int .i64 (((De.pt x 0 4 : Nat) : Int)), .int .i64 (0), .int .i64 (((De.shift x : Nat) : Int)), .int .i64 (0), .bool false]) ∧ Below w.heap.size w w' := by
 go_enter Tryz.func109, Tryz.ntmps109
 go_wp2_with (first | (go_at_call 142; refine (part_int _ _ _ _ hx (by decide) (by decide) (by decide) (by decide)).mono ?_; rintro e w' ⟨rfl, n, rfl⟩) | (go_at_call 143; refine (shift_any _ _ hx).mono ?_; rintro e w' ⟨rfl, n, rfl⟩))
 exact bodyPost_ret (v := (.agg #[.int .i64 5, .int .i64 (((De.pt x 8 4 : Nat) : Int)), .int .i64 (0), .int .i64 (((De.pt x 0 4 : Nat) : Int)), .int .i64 (0), .int .i64 (((De.shift x : Nat) : Int)), .int .i64 (0), .bool false])) (by simp [results, Tryz.results109, go_sem]) rfl ⟨rfl, by (go_grown; (try (refine below_drewN ?_ _; go_grown; (try (refine below_drewN ?_ _; go_grown; (try (refine below_drewN ?_ _; go_grown)))))))⟩
theorem read6 (x : Nat) (w : World) (hx : x < 4294967296) :
  Calls Tryz.prog 109 #[.int .i64 6, .int .u32 (x : Int)] w fun e w' => e = .returned (.agg #[.int .i64 6, .int .i64 (((De.pt x 8 4 : Nat) : Int)), .int .i64 (0), .int .i64 (((De.pt x 0 4 : Nat) : Int)), .int .i64 (0), .int .i64 (((De.shift x : Nat) : Int)), .int .i64 (0), .bool false]) ∧ Below w.heap.size w w' := by
 go_enter Tryz.func109, Tryz.ntmps109
 go_wp2_with (first | (go_at_call 142; refine (part_int _ _ _ _ hx (by decide) (by decide) (by decide) (by decide)).mono ?_; rintro e w' ⟨rfl, n, rfl⟩) | (go_at_call 143; refine (shift_any _ _ hx).mono ?_; rintro e w' ⟨rfl, n, rfl⟩))
 exact bodyPost_ret (v := (.agg #[.int .i64 6, .int .i64 (((De.pt x 8 4 : Nat) : Int)), .int .i64 (0), .int .i64 (((De.pt x 0 4 : Nat) : Int)), .int .i64 (0), .int .i64 (((De.shift x : Nat) : Int)), .int .i64 (0), .bool false])) (by simp [results, Tryz.results109, go_sem]) rfl ⟨rfl, by (go_grown; (try (refine below_drewN ?_ _; go_grown; (try (refine below_drewN ?_ _; go_grown; (try (refine below_drewN ?_ _; go_grown)))))))⟩
theorem read7 (x : Nat) (w : World) (hx : x < 4294967296) :
  Calls Tryz.prog 109 #[.int .i64 7, .int .u32 (x : Int)] w fun e w' => e = .returned (.agg #[.int .i64 7, .int .i64 (((De.pt x 8 4 : Nat) : Int)), .int .i64 (0), .int .i64 (((De.pt x 0 4 : Nat) : Int)), .int .i64 (0), .int .i64 (((De.shift x : Nat) : Int)), .int .i64 (0), .bool false]) ∧ Below w.heap.size w w' := by
 go_enter Tryz.func109, Tryz.ntmps109
 go_wp2_with (first | (go_at_call 142; refine (part_int _ _ _ _ hx (by decide) (by decide) (by decide) (by decide)).mono ?_; rintro e w' ⟨rfl, n, rfl⟩) | (go_at_call 143; refine (shift_any _ _ hx).mono ?_; rintro e w' ⟨rfl, n, rfl⟩))
 exact bodyPost_ret (v := (.agg #[.int .i64 7, .int .i64 (((De.pt x 8 4 : Nat) : Int)), .int .i64 (0), .int .i64 (((De.pt x 0 4 : Nat) : Int)), .int .i64 (0), .int .i64 (((De.shift x : Nat) : Int)), .int .i64 (0), .bool false])) (by simp [results, Tryz.results109, go_sem]) rfl ⟨rfl, by (go_grown; (try (refine below_drewN ?_ _; go_grown; (try (refine below_drewN ?_ _; go_grown; (try (refine below_drewN ?_ _; go_grown)))))))⟩
theorem read8 (x : Nat) (w : World) (hx : x < 4294967296) :
  Calls Tryz.prog 109 #[.int .i64 8, .int .u32 (x : Int)] w fun e w' => e = .returned (.agg #[.int .i64 8, .int .i64 (((De.pt x 8 4 : Nat) : Int)), .int .i64 (0), .int .i64 (((De.pt x 0 4 : Nat) : Int)), .int .i64 (0), .int .i64 (((De.shift x : Nat) : Int)), .int .i64 (0), .bool false]) ∧ Below w.heap.size w w' := by
 go_enter Tryz.func109, Tryz.ntmps109
 go_wp2_with (first | (go_at_call 142; refine (part_int _ _ _ _ hx (by decide) (by decide) (by decide) (by decide)).mono ?_; rintro e w' ⟨rfl, n, rfl⟩) | (go_at_call 143; refine (shift_any _ _ hx).mono ?_; rintro e w' ⟨rfl, n, rfl⟩))
 exact bodyPost_ret (v := (.agg #[.int .i64 8, .int .i64 (((De.pt x 8 4 : Nat) : Int)), .int .i64 (0), .int .i64 (((De.pt x 0 4 : Nat) : Int)), .int .i64 (0), .int .i64 (((De.shift x : Nat) : Int)), .int .i64 (0), .bool false])) (by simp [results, Tryz.results109, go_sem]) rfl ⟨rfl, by (go_grown; (try (refine below_drewN ?_ _; go_grown; (try (refine below_drewN ?_ _; go_grown; (try (refine below_drewN ?_ _; go_grown)))))))⟩
end Go.Proofs.YthciobjklhkkcaaGreat
end
section
namespace Go.Proofs.YthciobjklhkkcaaGreat
open Go.ChangeShapes Go.WideShapes Go.ChangeAt Go.RowKit
set_option maxHeartbeats 4000000
set_option maxRecDepth 100000
set_option linter.unusedVariables false

theorem read9 (x : Nat) (w : World) (hx : x < 4294967296) :
  Calls Tryz.prog 109 #[.int .i64 9, .int .u32 (x : Int)] w fun e w' => e = .returned (.agg #[.int .i64 9, .int .i64 (((De.pt x 8 4 : Nat) : Int)), .int .i64 (0), .int .i64 (((De.pt x 0 4 : Nat) : Int)), .int .i64 (0), .int .i64 (0), .int .i64 (0), .bool false]) ∧ Below w.heap.size w w' := by
 go_enter Tryz.func109, Tryz.ntmps109
 go_wp2_with (first | (go_at_call 142; refine (part_int _ _ _ _ hx (by decide) (by decide) (by decide) (by decide)).mono ?_; rintro e w' ⟨rfl, n, rfl⟩) | (go_at_call 143; refine (shift_any _ _ hx).mono ?_; rintro e w' ⟨rfl, n, rfl⟩))
 exact bodyPost_ret (v := (.agg #[.int .i64 9, .int .i64 (((De.pt x 8 4 : Nat) : Int)), .int .i64 (0), .int .i64 (((De.pt x 0 4 : Nat) : Int)), .int .i64 (0), .int .i64 (0), .int .i64 (0), .bool false])) (by simp [results, Tryz.results109, go_sem]) rfl ⟨rfl, by (go_grown; (try (refine below_drewN ?_ _; go_grown; (try (refine below_drewN ?_ _; go_grown; (try (refine below_drewN ?_ _; go_grown)))))))⟩
theorem read10 (x : Nat) (w : World) (hx : x < 4294967296) :
  Calls Tryz.prog 109 #[.int .i64 10, .int .u32 (x : Int)] w fun e w' => e = .returned (.agg #[.int .i64 10, .int .i64 (((De.pt x 8 4 : Nat) : Int)), .int .i64 (((De.pt x 16 4 : Nat) : Int)), .int .i64 (((De.pt x 0 4 : Nat) : Int)), .int .i64 (0), .int .i64 (0), .int .i64 (0), .bool false]) ∧ Below w.heap.size w w' := by
 go_enter Tryz.func109, Tryz.ntmps109
 go_wp2_with (first | (go_at_call 142; refine (part_int _ _ _ _ hx (by decide) (by decide) (by decide) (by decide)).mono ?_; rintro e w' ⟨rfl, n, rfl⟩) | (go_at_call 143; refine (shift_any _ _ hx).mono ?_; rintro e w' ⟨rfl, n, rfl⟩))
 exact bodyPost_ret (v := (.agg #[.int .i64 10, .int .i64 (((De.pt x 8 4 : Nat) : Int)), .int .i64 (((De.pt x 16 4 : Nat) : Int)), .int .i64 (((De.pt x 0 4 : Nat) : Int)), .int .i64 (0), .int .i64 (0), .int .i64 (0), .bool false])) (by simp [results, Tryz.results109, go_sem]) rfl ⟨rfl, by (go_grown; (try (refine below_drewN ?_ _; go_grown; (try (refine below_drewN ?_ _; go_grown; (try (refine below_drewN ?_ _; go_grown)))))))⟩
theorem read11 (x : Nat) (w : World) (hx : x < 4294967296) :
  Calls Tryz.prog 109 #[.int .i64 11, .int .u32 (x : Int)] w fun e w' => e = .returned (.agg #[.int .i64 11, .int .i64 (((De.pt x 8 4 : Nat) : Int)), .int .i64 (((De.pt x 16 4 : Nat) : Int)), .int .i64 (((De.pt x 0 4 : Nat) : Int)), .int .i64 (0), .int .i64 (0), .int .i64 (0), .bool false]) ∧ Below w.heap.size w w' := by
 go_enter Tryz.func109, Tryz.ntmps109
 go_wp2_with (first | (go_at_call 142; refine (part_int _ _ _ _ hx (by decide) (by decide) (by decide) (by decide)).mono ?_; rintro e w' ⟨rfl, n, rfl⟩) | (go_at_call 143; refine (shift_any _ _ hx).mono ?_; rintro e w' ⟨rfl, n, rfl⟩))
 exact bodyPost_ret (v := (.agg #[.int .i64 11, .int .i64 (((De.pt x 8 4 : Nat) : Int)), .int .i64 (((De.pt x 16 4 : Nat) : Int)), .int .i64 (((De.pt x 0 4 : Nat) : Int)), .int .i64 (0), .int .i64 (0), .int .i64 (0), .bool false])) (by simp [results, Tryz.results109, go_sem]) rfl ⟨rfl, by (go_grown; (try (refine below_drewN ?_ _; go_grown; (try (refine below_drewN ?_ _; go_grown; (try (refine below_drewN ?_ _; go_grown)))))))⟩
theorem read12 (x : Nat) (w : World) (hx : x < 4294967296) :
  Calls Tryz.prog 109 #[.int .i64 12, .int .u32 (x : Int)] w fun e w' => e = .returned (.agg #[.int .i64 12, .int .i64 (((De.pt x 8 4 : Nat) : Int)), .int .i64 (((De.pt x 16 4 : Nat) : Int)), .int .i64 (((De.pt x 0 4 : Nat) : Int)), .int .i64 (0), .int .i64 (0), .int .i64 (0), .bool false]) ∧ Below w.heap.size w w' := by
 go_enter Tryz.func109, Tryz.ntmps109
 go_wp2_with (first | (go_at_call 142; refine (part_int _ _ _ _ hx (by decide) (by decide) (by decide) (by decide)).mono ?_; rintro e w' ⟨rfl, n, rfl⟩) | (go_at_call 143; refine (shift_any _ _ hx).mono ?_; rintro e w' ⟨rfl, n, rfl⟩))
 exact bodyPost_ret (v := (.agg #[.int .i64 12, .int .i64 (((De.pt x 8 4 : Nat) : Int)), .int .i64 (((De.pt x 16 4 : Nat) : Int)), .int .i64 (((De.pt x 0 4 : Nat) : Int)), .int .i64 (0), .int .i64 (0), .int .i64 (0), .bool false])) (by simp [results, Tryz.results109, go_sem]) rfl ⟨rfl, by (go_grown; (try (refine below_drewN ?_ _; go_grown; (try (refine below_drewN ?_ _; go_grown; (try (refine below_drewN ?_ _; go_grown)))))))⟩
theorem read13 (x : Nat) (w : World) (hx : x < 4294967296) :
  Calls Tryz.prog 109 #[.int .i64 13, .int .u32 (x : Int)] w fun e w' => e = .returned (.agg #[.int .i64 13, .int .i64 (((De.pt x 8 4 : Nat) : Int)), .int .i64 (((De.pt x 16 4 : Nat) : Int)), .int .i64 (((De.pt x 0 4 : Nat) : Int)), .int .i64 (0), .int .i64 (0), .int .i64 (0), .bool false]) ∧ Below w.heap.size w w' := by
 go_enter Tryz.func109, Tryz.ntmps109
 go_wp2_with (first | (go_at_call 142; refine (part_int _ _ _ _ hx (by decide) (by decide) (by decide) (by decide)).mono ?_; rintro e w' ⟨rfl, n, rfl⟩) | (go_at_call 143; refine (shift_any _ _ hx).mono ?_; rintro e w' ⟨rfl, n, rfl⟩))
 exact bodyPost_ret (v := (.agg #[.int .i64 13, .int .i64 (((De.pt x 8 4 : Nat) : Int)), .int .i64 (((De.pt x 16 4 : Nat) : Int)), .int .i64 (((De.pt x 0 4 : Nat) : Int)), .int .i64 (0), .int .i64 (0), .int .i64 (0), .bool false])) (by simp [results, Tryz.results109, go_sem]) rfl ⟨rfl, by (go_grown; (try (refine below_drewN ?_ _; go_grown; (try (refine below_drewN ?_ _; go_grown; (try (refine below_drewN ?_ _; go_grown)))))))⟩
theorem read14 (x : Nat) (w : World) (hx : x < 4294967296) :
  Calls Tryz.prog 109 #[.int .i64 14, .int .u32 (x : Int)] w fun e w' => e = .returned (.agg #[.int .i64 14, .int .i64 (((De.pt x 8 4 : Nat) : Int)), .int .i64 (((De.pt x 16 4 : Nat) : Int)), .int .i64 (((De.pt x 0 4 : Nat) : Int)), .int .i64 (0), .int .i64 (0), .int .i64 (0), .bool false]) ∧ Below w.heap.size w w' := by
 go_enter Tryz.func109, Tryz.ntmps109
 go_wp2_with (first | (go_at_call 142; refine (part_int _ _ _ _ hx (by decide) (by decide) (by decide) (by decide)).mono ?_; rintro e w' ⟨rfl, n, rfl⟩) | (go_at_call 143; refine (shift_any _ _ hx).mono ?_; rintro e w' ⟨rfl, n, rfl⟩))
 exact bodyPost_ret (v := (.agg #[.int .i64 14, .int .i64 (((De.pt x 8 4 : Nat) : Int)), .int .i64 (((De.pt x 16 4 : Nat) : Int)), .int .i64 (((De.pt x 0 4 : Nat) : Int)), .int .i64 (0), .int .i64 (0), .int .i64 (0), .bool false])) (by simp [results, Tryz.results109, go_sem]) rfl ⟨rfl, by (go_grown; (try (refine below_drewN ?_ _; go_grown; (try (refine below_drewN ?_ _; go_grown; (try (refine below_drewN ?_ _; go_grown)))))))⟩
theorem read15 (x : Nat) (w : World) (hx : x < 4294967296) :
  Calls Tryz.prog 109 #[.int .i64 15, .int .u32 (x : Int)] w fun e w' => e = .returned (.agg #[.int .i64 15, .int .i64 (((De.pt x 8 4 : Nat) : Int)), .int .i64 (((De.pt x 16 4 : Nat) : Int)), .int .i64 (((De.pt x 0 4 : Nat) : Int)), .int .i64 (0), .int .i64 (0), .int .i64 (0), .bool false]) ∧ Below w.heap.size w w' := by
 go_enter Tryz.func109, Tryz.ntmps109
 go_wp2_with (first | (go_at_call 142; refine (part_int _ _ _ _ hx (by decide) (by decide) (by decide) (by decide)).mono ?_; rintro e w' ⟨rfl, n, rfl⟩) | (go_at_call 143; refine (shift_any _ _ hx).mono ?_; rintro e w' ⟨rfl, n, rfl⟩))
 exact bodyPost_ret (v := (.agg #[.int .i64 15, .int .i64 (((De.pt x 8 4 : Nat) : Int)), .int .i64 (((De.pt x 16 4 : Nat) : Int)), .int .i64 (((De.pt x 0 4 : Nat) : Int)), .int .i64 (0), .int .i64 (0), .int .i64 (0), .bool false])) (by simp [results, Tryz.results109, go_sem]) rfl ⟨rfl, by (go_grown; (try (refine below_drewN ?_ _; go_grown; (try (refine below_drewN ?_ _; go_grown; (try (refine below_drewN ?_ _; go_grown)))))))⟩
theorem read16 (x : Nat) (w : World) (hx : x < 4294967296) :
  Calls Tryz.prog 109 #[.int .i64 16, .int .u32 (x : Int)] w fun e w' => e = .returned (.agg #[.int .i64 16, .int .i64 (((De.pt x 8 4 : Nat) : Int)), .int .i64 (((De.pt x 16 4 : Nat) : Int)), .int .i64 (((De.pt x 0 4 : Nat) : Int)), .int .i64 (0), .int .i64 (0), .int .i64 (0), .bool false]) ∧ Below w.heap.size w w' := by
 go_enter Tryz.func109, Tryz.ntmps109
 go_wp2_with (first | (go_at_call 142; refine (part_int _ _ _ _ hx (by decide) (by decide) (by decide) (by decide)).mono ?_; rintro e w' ⟨rfl, n, rfl⟩) | (go_at_call 143; refine (shift_any _ _ hx).mono ?_; rintro e w' ⟨rfl, n, rfl⟩))
 exact bodyPost_ret (v := (.agg #[.int .i64 16, .int .i64 (((De.pt x 8 4 : Nat) : Int)), .int .i64 (((De.pt x 16 4 : Nat) : Int)), .int .i64 (((De.pt x 0 4 : Nat) : Int)), .int .i64 (0), .int .i64 (0), .int .i64 (0), .bool false])) (by simp [results, Tryz.results109, go_sem]) rfl ⟨rfl, by (go_grown; (try (refine below_drewN ?_ _; go_grown; (try (refine below_drewN ?_ _; go_grown; (try (refine below_drewN ?_ _; go_grown)))))))⟩
end Go.Proofs.YthciobjklhkkcaaGreat
end
