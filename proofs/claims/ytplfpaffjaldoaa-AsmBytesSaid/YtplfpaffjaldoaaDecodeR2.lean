/-
  What package decode's read returns.
-/
import Derived.Test.YtplfpaffjaldoaaDecodeC
import Derived.Test.YtplfpaffjaldoaaThumbS
import Derived.IntWalk
namespace Go.Proofs.Ytplfpaffjaldoaa
open Go.ChangeShapes Go.WideShapes Go.ChangeAt Go.RowKit
set_option linter.unusedVariables false

set_option maxHeartbeats 4000000 in
set_option maxRecDepth 100000 in
theorem read17 (x : Nat) (w : World) (hx : x < 4294967296) :
    Calls Try.prog 69 #[.int .i64 17, .int .u32 (x : Int)] w fun e w' => e = .returned (.agg #[.int .i64 17, .int .i64 (((De.pt x 12 4 : Nat) : Int)), .int .i64 (((De.pt x 16 4 : Nat) : Int)), .int .i64 (((De.pt x 0 4 : Nat) : Int)), .int .i64 (((De.pt x 8 4 : Nat) : Int)), .int .i64 (0), .int .i64 (0), .bool false]) ∧ Below w.heap.size w w' := by
  go_enter Try.func69, Try.ntmps69
  go_wp2_with (first | (go_at_call 77; refine (part_int _ _ _ _ hx (by decide) (by decide) (by decide) (by decide)).mono ?_; rintro e w' ⟨rfl, n, rfl⟩) | (go_at_call 78; refine (shift_any _ _ hx).mono ?_; rintro e w' ⟨rfl, n, rfl⟩))
  exact bodyPost_ret (v := (.agg #[.int .i64 17, .int .i64 (((De.pt x 12 4 : Nat) : Int)), .int .i64 (((De.pt x 16 4 : Nat) : Int)), .int .i64 (((De.pt x 0 4 : Nat) : Int)), .int .i64 (((De.pt x 8 4 : Nat) : Int)), .int .i64 (0), .int .i64 (0), .bool false])) (by simp [results, Try.results69, go_sem]) rfl ⟨rfl, by (go_grown; (try (refine below_drewN ?_ _; go_grown; (try (refine below_drewN ?_ _; go_grown; (try (refine below_drewN ?_ _; go_grown)))))))⟩
set_option maxHeartbeats 4000000 in
set_option maxRecDepth 100000 in
theorem read18 (x : Nat) (w : World) (hx : x < 4294967296) :
    Calls Try.prog 69 #[.int .i64 18, .int .u32 (x : Int)] w fun e w' => e = .returned (.agg #[.int .i64 18, .int .i64 (((De.pt x 8 4 : Nat) : Int)), .int .i64 (((De.pt x 16 4 : Nat) : Int)), .int .i64 (0), .int .i64 (((De.pt x 0 5 : Nat) : Int) + 1 - ((De.shift x : Nat) : Int)), .int .i64 (((De.shift x : Nat) : Int)), .int .i64 (0), .bool false]) ∧ Below w.heap.size w w' := by
  have b5 := De.pt_lt x 0 5
  have bs : De.shift x < 32 := by unfold De.shift; have := De.pt_lt x 12 3; have := De.pt_lt x 6 2; omega
  have e1 : IntKind.i64.wrap ((De.pt x 0 5 : Int) + 1) = (De.pt x 0 5 : Int) + 1 := IntWalk.i64_in _ (by omega)
  have e2 : IntKind.i64.wrap ((De.pt x 0 5 : Int) + 1 - (De.shift x : Int)) = (De.pt x 0 5 : Int) + 1 - (De.shift x : Int) := IntWalk.i64_in _ (by omega)
  go_enter Try.func69, Try.ntmps69
  go_wp2_with (first | (go_at_call 77; refine (part_int _ _ _ _ hx (by decide) (by decide) (by decide) (by decide)).mono ?_; rintro e w' ⟨rfl, n, rfl⟩) | (go_at_call 78; refine (shift_any _ _ hx).mono ?_; rintro e w' ⟨rfl, n, rfl⟩))
  go_region_with ((go_at_call 77; refine (part_int _ _ _ _ hx (by decide) (by decide) (by decide) (by decide)).mono ?_; rintro e w' ⟨rfl, n, rfl⟩))
  all_goals
    go_wp2
    exact bodyPost_ret (v := (.agg #[.int .i64 18, .int .i64 (((De.pt x 8 4 : Nat) : Int)), .int .i64 (((De.pt x 16 4 : Nat) : Int)), .int .i64 (0), .int .i64 (((De.pt x 0 5 : Nat) : Int) + 1 - ((De.shift x : Nat) : Int)), .int .i64 (((De.shift x : Nat) : Int)), .int .i64 (0), .bool false])) (by simp [results, Try.results69, go_sem]) rfl ⟨rfl, by (go_grown; (try (refine below_drewN ?_ _; go_grown; (try (refine below_drewN ?_ _; go_grown; (try (refine below_drewN ?_ _; go_grown)))))))⟩
set_option maxHeartbeats 4000000 in
set_option maxRecDepth 100000 in
theorem read19 (x : Nat) (w : World) (hx : x < 4294967296) :
    Calls Try.prog 69 #[.int .i64 19, .int .u32 (x : Int)] w fun e w' => e = .returned (.agg #[.int .i64 19, .int .i64 (((De.pt x 0 3 : Nat) : Int)), .int .i64 (((De.pt x 3 3 : Nat) : Int)), .int .i64 (0), .int .i64 (0), .int .i64 (0), .int .i64 (0), .bool false]) ∧ Below w.heap.size w w' := by
  go_enter Try.func69, Try.ntmps69
  go_wp2_with (first | (go_at_call 77; refine (part_int _ _ _ _ hx (by decide) (by decide) (by decide) (by decide)).mono ?_; rintro e w' ⟨rfl, n, rfl⟩) | (go_at_call 78; refine (shift_any _ _ hx).mono ?_; rintro e w' ⟨rfl, n, rfl⟩))
  exact bodyPost_ret (v := (.agg #[.int .i64 19, .int .i64 (((De.pt x 0 3 : Nat) : Int)), .int .i64 (((De.pt x 3 3 : Nat) : Int)), .int .i64 (0), .int .i64 (0), .int .i64 (0), .int .i64 (0), .bool false])) (by simp [results, Try.results69, go_sem]) rfl ⟨rfl, by (go_grown; (try (refine below_drewN ?_ _; go_grown; (try (refine below_drewN ?_ _; go_grown; (try (refine below_drewN ?_ _; go_grown)))))))⟩
set_option maxHeartbeats 4000000 in
set_option maxRecDepth 100000 in
theorem read20 (x : Nat) (w : World) (hx : x < 4294967296) :
    Calls Try.prog 69 #[.int .i64 20, .int .u32 (x : Int)] w fun e w' => e = .returned (.agg #[.int .i64 20, .int .i64 (((De.pt x 0 3 : Nat) : Int)), .int .i64 (((De.pt x 3 3 : Nat) : Int)), .int .i64 (0), .int .i64 (0), .int .i64 (0), .int .i64 (0), .bool false]) ∧ Below w.heap.size w w' := by
  go_enter Try.func69, Try.ntmps69
  go_wp2_with (first | (go_at_call 77; refine (part_int _ _ _ _ hx (by decide) (by decide) (by decide) (by decide)).mono ?_; rintro e w' ⟨rfl, n, rfl⟩) | (go_at_call 78; refine (shift_any _ _ hx).mono ?_; rintro e w' ⟨rfl, n, rfl⟩))
  exact bodyPost_ret (v := (.agg #[.int .i64 20, .int .i64 (((De.pt x 0 3 : Nat) : Int)), .int .i64 (((De.pt x 3 3 : Nat) : Int)), .int .i64 (0), .int .i64 (0), .int .i64 (0), .int .i64 (0), .bool false])) (by simp [results, Try.results69, go_sem]) rfl ⟨rfl, by (go_grown; (try (refine below_drewN ?_ _; go_grown; (try (refine below_drewN ?_ _; go_grown; (try (refine below_drewN ?_ _; go_grown)))))))⟩
set_option maxHeartbeats 4000000 in
set_option maxRecDepth 100000 in
theorem read21 (x : Nat) (w : World) (hx : x < 4294967296) :
    Calls Try.prog 69 #[.int .i64 21, .int .u32 (x : Int)] w fun e w' => e = .returned (.agg #[.int .i64 21, .int .i64 (((De.pt x 0 3 : Nat) : Int)), .int .i64 (((De.pt x 3 3 : Nat) : Int)), .int .i64 (0), .int .i64 (0), .int .i64 (0), .int .i64 (0), .bool false]) ∧ Below w.heap.size w w' := by
  go_enter Try.func69, Try.ntmps69
  go_wp2_with (first | (go_at_call 77; refine (part_int _ _ _ _ hx (by decide) (by decide) (by decide) (by decide)).mono ?_; rintro e w' ⟨rfl, n, rfl⟩) | (go_at_call 78; refine (shift_any _ _ hx).mono ?_; rintro e w' ⟨rfl, n, rfl⟩))
  exact bodyPost_ret (v := (.agg #[.int .i64 21, .int .i64 (((De.pt x 0 3 : Nat) : Int)), .int .i64 (((De.pt x 3 3 : Nat) : Int)), .int .i64 (0), .int .i64 (0), .int .i64 (0), .int .i64 (0), .bool false])) (by simp [results, Try.results69, go_sem]) rfl ⟨rfl, by (go_grown; (try (refine below_drewN ?_ _; go_grown; (try (refine below_drewN ?_ _; go_grown; (try (refine below_drewN ?_ _; go_grown)))))))⟩
set_option maxHeartbeats 4000000 in
set_option maxRecDepth 100000 in
theorem read22 (x : Nat) (w : World) (hx : x < 4294967296) :
    Calls Try.prog 69 #[.int .i64 22, .int .u32 (x : Int)] w fun e w' => e = .returned (.agg #[.int .i64 22, .int .i64 (((De.pt x 0 3 : Nat) : Int)), .int .i64 (((De.pt x 3 3 : Nat) : Int)), .int .i64 (0), .int .i64 (0), .int .i64 (0), .int .i64 (0), .bool false]) ∧ Below w.heap.size w w' := by
  go_enter Try.func69, Try.ntmps69
  go_wp2_with (first | (go_at_call 77; refine (part_int _ _ _ _ hx (by decide) (by decide) (by decide) (by decide)).mono ?_; rintro e w' ⟨rfl, n, rfl⟩) | (go_at_call 78; refine (shift_any _ _ hx).mono ?_; rintro e w' ⟨rfl, n, rfl⟩))
  exact bodyPost_ret (v := (.agg #[.int .i64 22, .int .i64 (((De.pt x 0 3 : Nat) : Int)), .int .i64 (((De.pt x 3 3 : Nat) : Int)), .int .i64 (0), .int .i64 (0), .int .i64 (0), .int .i64 (0), .bool false])) (by simp [results, Try.results69, go_sem]) rfl ⟨rfl, by (go_grown; (try (refine below_drewN ?_ _; go_grown; (try (refine below_drewN ?_ _; go_grown; (try (refine below_drewN ?_ _; go_grown)))))))⟩
set_option maxHeartbeats 4000000 in
set_option maxRecDepth 100000 in
theorem read23 (x : Nat) (w : World) (hx : x < 4294967296) :
    Calls Try.prog 69 #[.int .i64 23, .int .u32 (x : Int)] w fun e w' => e = .returned (.agg #[.int .i64 23, .int .i64 (0), .int .i64 (((De.pt x 0 3 : Nat) : Int)), .int .i64 (((De.pt x 3 3 : Nat) : Int)), .int .i64 (0), .int .i64 (0), .int .i64 (0), .bool false]) ∧ Below w.heap.size w w' := by
  go_enter Try.func69, Try.ntmps69
  go_wp2_with (first | (go_at_call 77; refine (part_int _ _ _ _ hx (by decide) (by decide) (by decide) (by decide)).mono ?_; rintro e w' ⟨rfl, n, rfl⟩) | (go_at_call 78; refine (shift_any _ _ hx).mono ?_; rintro e w' ⟨rfl, n, rfl⟩))
  exact bodyPost_ret (v := (.agg #[.int .i64 23, .int .i64 (0), .int .i64 (((De.pt x 0 3 : Nat) : Int)), .int .i64 (((De.pt x 3 3 : Nat) : Int)), .int .i64 (0), .int .i64 (0), .int .i64 (0), .bool false])) (by simp [results, Try.results69, go_sem]) rfl ⟨rfl, by (go_grown; (try (refine below_drewN ?_ _; go_grown; (try (refine below_drewN ?_ _; go_grown; (try (refine below_drewN ?_ _; go_grown)))))))⟩
set_option maxHeartbeats 4000000 in
set_option maxRecDepth 100000 in
theorem read24w (x : Nat) (w : World) (hx : x < 4294967296) (hw : 65536 ≤ x) :
    Calls Try.prog 69 #[.int .i64 24, .int .u32 (x : Int)] w fun e w' => e = .returned (.agg #[.int .i64 24, .int .i64 (0), .int .i64 (0), .int .i64 (0), .int .i64 (0), .int .i64 (De.signed (De.b24w x) 25), .int .i64 (0), .bool true]) ∧ Below w.heap.size w w' := by
  go_enter Try.func69, Try.ntmps69
  go_wp2_with (first | (go_at_call 79; refine (readb24w _ _ hx hw).mono ?_; rintro e w1 ⟨rfl, hb1⟩; obtain ⟨c0, c1, c2, c3, c4, c5, c6, c7⟩ := ((ins_alloc w 39 0 0 0 0 0 0 0 false).alloc (by simp) _).below hb1 (by simp; omega); have HB : Hid (Below w.heap.size w w1) := (((Below.refl _ _).alloc (Nat.le_refl _) _).alloc (by simp) _).trans (hb1.mono (by simp; omega)); obtain ⟨hc, hf⟩ := bcell hb1; have hz := hb1.size; simp at hz; clear hb1 hc))
  exact bodyPost_ret (v := (.agg #[.int .i64 24, .int .i64 (0), .int .i64 (0), .int .i64 (0), .int .i64 (0), .int .i64 (De.signed (De.b24w x) 25), .int .i64 (0), .bool true])) (by simp [results, Try.results69, go_sem, c0, c1, c2, c3, c4, c5, c6, c7]) rfl ⟨rfl, by (iterate 8 (refine Below.setCell ?_ (by simp) _)); exact HB.out⟩
set_option maxHeartbeats 4000000 in
set_option maxRecDepth 100000 in
theorem read24n (x : Nat) (w : World) (hx : x < 4294967296) (hw : x < 65536) :
    Calls Try.prog 69 #[.int .i64 24, .int .u32 (x : Int)] w fun e w' => e = .returned (.agg #[.int .i64 24, .int .i64 (0), .int .i64 (0), .int .i64 (0), .int .i64 (0), .int .i64 (De.signed (De.b24n x) 12), .int .i64 (0), .bool false]) ∧ Below w.heap.size w w' := by
  go_enter Try.func69, Try.ntmps69
  go_wp2_with (first | (go_at_call 79; refine (readb24n _ _ hx hw).mono ?_; rintro e w1 ⟨rfl, hb1⟩; obtain ⟨c0, c1, c2, c3, c4, c5, c6, c7⟩ := ((ins_alloc w 39 0 0 0 0 0 0 0 false).alloc (by simp) _).below hb1 (by simp; omega); have HB : Hid (Below w.heap.size w w1) := (((Below.refl _ _).alloc (Nat.le_refl _) _).alloc (by simp) _).trans (hb1.mono (by simp; omega)); obtain ⟨hc, hf⟩ := bcell hb1; have hz := hb1.size; simp at hz; clear hb1 hc))
  exact bodyPost_ret (v := (.agg #[.int .i64 24, .int .i64 (0), .int .i64 (0), .int .i64 (0), .int .i64 (0), .int .i64 (De.signed (De.b24n x) 12), .int .i64 (0), .bool false])) (by simp [results, Try.results69, go_sem, c0, c1, c2, c3, c4, c5, c6, c7]) rfl ⟨rfl, by (iterate 8 (refine Below.setCell ?_ (by simp) _)); exact HB.out⟩
set_option maxHeartbeats 4000000 in
set_option maxRecDepth 100000 in
theorem read25w (x : Nat) (w : World) (hx : x < 4294967296) (hw : 65536 ≤ x) :
    Calls Try.prog 69 #[.int .i64 25, .int .u32 (x : Int)] w fun e w' => e = .returned (.agg #[.int .i64 25, .int .i64 (0), .int .i64 (0), .int .i64 (0), .int .i64 (0), .int .i64 (De.signed (De.b25w x) 21), .int .i64 (((De.pt x 22 4 : Nat) : Int)), .bool true]) ∧ Below w.heap.size w w' := by
  go_enter Try.func69, Try.ntmps69
  go_wp2_with (first | (go_at_call 79; refine (readb25w _ _ hx hw).mono ?_; rintro e w1 ⟨rfl, hb1⟩; obtain ⟨c0, c1, c2, c3, c4, c5, c6, c7⟩ := ((ins_alloc w 39 0 0 0 0 0 0 0 false).alloc (by simp) _).below hb1 (by simp; omega); have HB : Hid (Below w.heap.size w w1) := (((Below.refl _ _).alloc (Nat.le_refl _) _).alloc (by simp) _).trans (hb1.mono (by simp; omega)); obtain ⟨hc, hf⟩ := bcell hb1; have hz := hb1.size; simp at hz; clear hb1 hc))
  exact bodyPost_ret (v := (.agg #[.int .i64 25, .int .i64 (0), .int .i64 (0), .int .i64 (0), .int .i64 (0), .int .i64 (De.signed (De.b25w x) 21), .int .i64 (((De.pt x 22 4 : Nat) : Int)), .bool true])) (by simp [results, Try.results69, go_sem, c0, c1, c2, c3, c4, c5, c6, c7]) rfl ⟨rfl, by (iterate 8 (refine Below.setCell ?_ (by simp) _)); exact HB.out⟩
set_option maxHeartbeats 4000000 in
set_option maxRecDepth 100000 in
theorem read25n (x : Nat) (w : World) (hx : x < 4294967296) (hw : x < 65536) :
    Calls Try.prog 69 #[.int .i64 25, .int .u32 (x : Int)] w fun e w' => e = .returned (.agg #[.int .i64 25, .int .i64 (0), .int .i64 (0), .int .i64 (0), .int .i64 (0), .int .i64 (De.signed (De.b25n x) 9), .int .i64 (((De.pt x 8 4 : Nat) : Int)), .bool false]) ∧ Below w.heap.size w w' := by
  go_enter Try.func69, Try.ntmps69
  go_wp2_with (first | (go_at_call 79; refine (readb25n _ _ hx hw).mono ?_; rintro e w1 ⟨rfl, hb1⟩; obtain ⟨c0, c1, c2, c3, c4, c5, c6, c7⟩ := ((ins_alloc w 39 0 0 0 0 0 0 0 false).alloc (by simp) _).below hb1 (by simp; omega); have HB : Hid (Below w.heap.size w w1) := (((Below.refl _ _).alloc (Nat.le_refl _) _).alloc (by simp) _).trans (hb1.mono (by simp; omega)); obtain ⟨hc, hf⟩ := bcell hb1; have hz := hb1.size; simp at hz; clear hb1 hc))
  exact bodyPost_ret (v := (.agg #[.int .i64 25, .int .i64 (0), .int .i64 (0), .int .i64 (0), .int .i64 (0), .int .i64 (De.signed (De.b25n x) 9), .int .i64 (((De.pt x 8 4 : Nat) : Int)), .bool false])) (by simp [results, Try.results69, go_sem, c0, c1, c2, c3, c4, c5, c6, c7]) rfl ⟨rfl, by (iterate 8 (refine Below.setCell ?_ (by simp) _)); exact HB.out⟩
end Go.Proofs.Ytplfpaffjaldoaa
