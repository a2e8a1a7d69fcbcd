/-
  What the document's own Check of thumb returns, part 4.
-/
import Derived.Test.YtennhpfhgbmnfaaCpuR
namespace Go.Proofs.Ytennhpfhgbmnfaa
open Go.ChangeShapes Go.WideShapes Go.ChangeAt Go.RowKit
set_option linter.unusedVariables false

set_option maxHeartbeats 4000000 in
set_option maxRecDepth 100000 in
theorem rc_n3 (op rd rn rm ra imm cond : Int) (wide : Bool) (w : World) (hz : (Th.rbits op wide).size ≤ 64) (o18 : (op == 18) = false) (e1 : (Th.rbits op wide).toList.isEmpty = false) (e2 : ¬ (Th.rbits op wide).toList = []) (t0 : Th.rnumber op imm = true) (t1 : Th.rreg (Th.rbits op wide) 100 rd = true) (t2 : Th.rreg (Th.rbits op wide) 110 rn = false) :
    Calls Try.prog 27 #[.agg #[.int .i64 op, .int .i64 rd, .int .i64 rn, .int .i64 rm, .int .i64 ra, .int .i64 imm, .int .i64 cond, .bool wide]] w fun e w' => e = .returned (.int .i64 2) ∧ Below w.heap.size w w' := by
  generalize hB : Th.rbits op wide = B at *
  have HB := Lib.hid hB
  clear hB
  go_enter Try.func27, Try.ntmps27
  go_wp2_with (first | go_skip | ((with_reducible refine wpList_take ?_ ?_); exact rfl; intro _ _) | (go_at_call 52; refine (rbits_any _ _ _).mono ?_; rintro e w' ⟨rfl, rfl⟩; rw [HB.out]) | (go_at_call 53; refine (rnumber_any _ _ _ _ _ _ _ _ _).mono ?_; rintro e w' ⟨rfl, hb⟩; obtain ⟨hc, hf⟩ := bcell hb) | (go_at_call 54; refine (rreg_any _ _ _ _ hz).mono ?_; rintro e w' ⟨rfl, rfl⟩) | (go_at_call 55; refine (rreach_any _ _ _).mono ?_; rintro e w' ⟨rfl, rfl⟩))
  go_ret
  exact ⟨rfl, by first | exact ((Below.refl _ _).alloc (Nat.le_refl _) _).trans (hb.mono (by simp)) | go_grown⟩
set_option maxHeartbeats 4000000 in
set_option maxRecDepth 100000 in
theorem rc_18f1 (rd rn rm ra imm cond : Int) (wide : Bool) (w : World) (hz : (Th.rbits 18 wide).size ≤ 64)  (e1 : (Th.rbits 18 wide).toList.isEmpty = false) (e2 : ¬ (Th.rbits 18 wide).toList = []) (t0 : Th.rnumber 18 imm = false) :
    Calls Try.prog 27 #[.agg #[.int .i64 18, .int .i64 rd, .int .i64 rn, .int .i64 rm, .int .i64 ra, .int .i64 imm, .int .i64 cond, .bool wide]] w fun e w' => e = .returned (.int .i64 2) ∧ Below w.heap.size w w' := by
  generalize hB : Th.rbits 18 wide = B at *
  have HB := Lib.hid hB
  clear hB
  go_enter Try.func27, Try.ntmps27
  go_wp2_with (first | go_skip | ((with_reducible refine wpList_take ?_ ?_); exact rfl; intro _ _) | (go_at_call 52; refine (rbits_any _ _ _).mono ?_; rintro e w' ⟨rfl, rfl⟩; rw [HB.out]) | (go_at_call 53; refine (rnumber_any _ _ _ _ _ _ _ _ _).mono ?_; rintro e w' ⟨rfl, hb⟩; obtain ⟨hc, hf⟩ := bcell hb) | (go_at_call 54; refine (rreg_any _ _ _ _ hz).mono ?_; rintro e w' ⟨rfl, rfl⟩) | (go_at_call 55; refine (rreach_any _ _ _).mono ?_; rintro e w' ⟨rfl, rfl⟩))
  go_ret
  exact ⟨rfl, by first | exact ((Below.refl _ _).alloc (Nat.le_refl _) _).trans (hb.mono (by simp)) | go_grown⟩
set_option maxHeartbeats 4000000 in
set_option maxRecDepth 100000 in
theorem rc_18f5 (rd rn rm ra imm cond : Int) (wide : Bool) (w : World) (hz : (Th.rbits 18 wide).size ≤ 64)  (e1 : (Th.rbits 18 wide).toList.isEmpty = false) (e2 : ¬ (Th.rbits 18 wide).toList = []) (t0 : Th.rnumber 18 imm = true) (t1 : Th.rreg (Th.rbits 18 wide) 100 rd = true) (t2 : Th.rreg (Th.rbits 18 wide) 110 rn = true) (t3 : Th.rreg (Th.rbits 18 wide) 109 rm = true) (t4 : Th.rreg (Th.rbits 18 wide) 97 0 = false) :
    Calls Try.prog 27 #[.agg #[.int .i64 18, .int .i64 rd, .int .i64 rn, .int .i64 rm, .int .i64 ra, .int .i64 imm, .int .i64 cond, .bool wide]] w fun e w' => e = .returned (.int .i64 2) ∧ Below w.heap.size w w' := by
  generalize hB : Th.rbits 18 wide = B at *
  have HB := Lib.hid hB
  clear hB
  go_enter Try.func27, Try.ntmps27
  go_wp2_with (first | go_skip | ((with_reducible refine wpList_take ?_ ?_); exact rfl; intro _ _) | (go_at_call 52; refine (rbits_any _ _ _).mono ?_; rintro e w' ⟨rfl, rfl⟩; rw [HB.out]) | (go_at_call 53; refine (rnumber_any _ _ _ _ _ _ _ _ _).mono ?_; rintro e w' ⟨rfl, hb⟩; obtain ⟨hc, hf⟩ := bcell hb) | (go_at_call 54; refine (rreg_any _ _ _ _ hz).mono ?_; rintro e w' ⟨rfl, rfl⟩) | (go_at_call 55; refine (rreach_any _ _ _).mono ?_; rintro e w' ⟨rfl, rfl⟩))
  go_ret
  exact ⟨rfl, by first | exact ((Below.refl _ _).alloc (Nat.le_refl _) _).trans (hb.mono (by simp)) | go_grown⟩
set_option maxHeartbeats 4000000 in
set_option maxRecDepth 100000 in
theorem rc_18g (rd rn rm ra imm cond : Int) (wide : Bool) (w : World) (hz : (Th.rbits 18 wide).size ≤ 64)  (e1 : (Th.rbits 18 wide).toList.isEmpty = false) (e2 : ¬ (Th.rbits 18 wide).toList = []) (t0 : Th.rnumber 18 imm = true) (t1 : Th.rreg (Th.rbits 18 wide) 100 rd = true) (t2 : Th.rreg (Th.rbits 18 wide) 110 rn = true) (t3 : Th.rreg (Th.rbits 18 wide) 109 rm = true) (t4 : Th.rreg (Th.rbits 18 wide) 97 0 = true) (l : 1 ≤ ra) (i0 : 0 ≤ imm) (i1 : imm ≤ 31) (g : 32 - imm < ra) :
    Calls Try.prog 27 #[.agg #[.int .i64 18, .int .i64 rd, .int .i64 rn, .int .i64 rm, .int .i64 ra, .int .i64 imm, .int .i64 cond, .bool wide]] w fun e w' => e = .returned (.int .i64 2) ∧ Below w.heap.size w w' := by
  generalize hB : Th.rbits 18 wide = B at *
  have HB := Lib.hid hB
  clear hB
  go_enter Try.func27, Try.ntmps27
  go_wp2_with (first | go_skip | ((with_reducible refine wpList_take ?_ ?_); exact rfl; intro _ _) | (go_at_call 52; refine (rbits_any _ _ _).mono ?_; rintro e w' ⟨rfl, rfl⟩; rw [HB.out]) | (go_at_call 53; refine (rnumber_any _ _ _ _ _ _ _ _ _).mono ?_; rintro e w' ⟨rfl, hb⟩; obtain ⟨hc, hf⟩ := bcell hb) | (go_at_call 54; refine (rreg_any _ _ _ _ hz).mono ?_; rintro e w' ⟨rfl, rfl⟩) | (go_at_call 55; refine (rreach_any _ _ _).mono ?_; rintro e w' ⟨rfl, rfl⟩))
  go_ret
  exact ⟨rfl, by first | exact ((Below.refl _ _).alloc (Nat.le_refl _) _).trans (hb.mono (by simp)) | go_grown⟩
set_option maxHeartbeats 4000000 in
set_option maxRecDepth 100000 in
theorem rc_17c (rd rn rm ra imm cond : Int) (wide : Bool) (w : World) (hz : (Th.rbits 17 wide).size ≤ 64)  (e1 : (Th.rbits 17 wide).toList.isEmpty = false) (e2 : ¬ (Th.rbits 17 wide).toList = []) (t0 : Th.rnumber 17 imm = true) (t1 : Th.rreg (Th.rbits 17 wide) 100 rd = true) (t2 : Th.rreg (Th.rbits 17 wide) 110 rn = true) (t3 : Th.rreg (Th.rbits 17 wide) 109 rm = true) (t4 : Th.rreg (Th.rbits 17 wide) 97 ra = true) (q : (ra == rd) = false) (c : (cond != 0) = true) :
    Calls Try.prog 27 #[.agg #[.int .i64 17, .int .i64 rd, .int .i64 rn, .int .i64 rm, .int .i64 ra, .int .i64 imm, .int .i64 cond, .bool wide]] w fun e w' => e = .returned (.int .i64 2) ∧ Below w.heap.size w w' := by
  generalize hB : Th.rbits 17 wide = B at *
  have HB := Lib.hid hB
  clear hB
  go_enter Try.func27, Try.ntmps27
  go_wp2_with (first | go_skip | ((with_reducible refine wpList_take ?_ ?_); exact rfl; intro _ _) | (go_at_call 52; refine (rbits_any _ _ _).mono ?_; rintro e w' ⟨rfl, rfl⟩; rw [HB.out]) | (go_at_call 53; refine (rnumber_any _ _ _ _ _ _ _ _ _).mono ?_; rintro e w' ⟨rfl, hb⟩; obtain ⟨hc, hf⟩ := bcell hb) | (go_at_call 54; refine (rreg_any _ _ _ _ hz).mono ?_; rintro e w' ⟨rfl, rfl⟩) | (go_at_call 55; refine (rreach_any _ _ _).mono ?_; rintro e w' ⟨rfl, rfl⟩))
  go_ret
  exact ⟨rfl, by first | exact ((Below.refl _ _).alloc (Nat.le_refl _) _).trans (hb.mono (by simp)) | go_grown⟩
set_option maxHeartbeats 4000000 in
set_option maxRecDepth 100000 in
theorem rc_25r1 (rd rn rm ra imm cond : Int) (wide : Bool) (w : World) (hz : (Th.rbits 25 wide).size ≤ 64)  (e1 : (Th.rbits 25 wide).toList.isEmpty = false) (e2 : ¬ (Th.rbits 25 wide).toList = []) (t0 : Th.rnumber 25 imm = true) (t1 : Th.rreg (Th.rbits 25 wide) 100 rd = true) (t2 : Th.rreg (Th.rbits 25 wide) 110 rn = true) (t3 : Th.rreg (Th.rbits 25 wide) 109 rm = true) (t4 : Th.rreg (Th.rbits 25 wide) 97 ra = true) (l : 0 ≤ cond) (g : cond ≤ 13) (m : (imm.tmod 2 != 0) = true) :
    Calls Try.prog 27 #[.agg #[.int .i64 25, .int .i64 rd, .int .i64 rn, .int .i64 rm, .int .i64 ra, .int .i64 imm, .int .i64 cond, .bool wide]] w fun e w' => e = .returned (.int .i64 6) ∧ Below w.heap.size w w' := by
  generalize hB : Th.rbits 25 wide = B at *
  have HB := Lib.hid hB
  clear hB
  go_enter Try.func27, Try.ntmps27
  go_wp2_with (first | go_skip | ((with_reducible refine wpList_take ?_ ?_); exact rfl; intro _ _) | (go_at_call 52; refine (rbits_any _ _ _).mono ?_; rintro e w' ⟨rfl, rfl⟩; rw [HB.out]) | (go_at_call 53; refine (rnumber_any _ _ _ _ _ _ _ _ _).mono ?_; rintro e w' ⟨rfl, hb⟩; obtain ⟨hc, hf⟩ := bcell hb) | (go_at_call 54; refine (rreg_any _ _ _ _ hz).mono ?_; rintro e w' ⟨rfl, rfl⟩) | (go_at_call 55; refine (rreach_any _ _ _).mono ?_; rintro e w' ⟨rfl, rfl⟩))
  go_ret
  exact ⟨rfl, by first | exact ((Below.refl _ _).alloc (Nat.le_refl _) _).trans (hb.mono (by simp)) | go_grown⟩
set_option maxHeartbeats 4000000 in
set_option maxRecDepth 100000 in
theorem rc_24r1 (rd rn rm ra imm cond : Int) (wide : Bool) (w : World) (hz : (Th.rbits 24 wide).size ≤ 64)  (e1 : (Th.rbits 24 wide).toList.isEmpty = false) (e2 : ¬ (Th.rbits 24 wide).toList = []) (t0 : Th.rnumber 24 imm = true) (t1 : Th.rreg (Th.rbits 24 wide) 100 rd = true) (t2 : Th.rreg (Th.rbits 24 wide) 110 rn = true) (t3 : Th.rreg (Th.rbits 24 wide) 109 rm = true) (t4 : Th.rreg (Th.rbits 24 wide) 97 ra = true) (c : (cond != 0) = false) (m : (imm.tmod 2 != 0) = true) :
    Calls Try.prog 27 #[.agg #[.int .i64 24, .int .i64 rd, .int .i64 rn, .int .i64 rm, .int .i64 ra, .int .i64 imm, .int .i64 cond, .bool wide]] w fun e w' => e = .returned (.int .i64 6) ∧ Below w.heap.size w w' := by
  generalize hB : Th.rbits 24 wide = B at *
  have HB := Lib.hid hB
  clear hB
  go_enter Try.func27, Try.ntmps27
  go_wp2_with (first | go_skip | ((with_reducible refine wpList_take ?_ ?_); exact rfl; intro _ _) | (go_at_call 52; refine (rbits_any _ _ _).mono ?_; rintro e w' ⟨rfl, rfl⟩; rw [HB.out]) | (go_at_call 53; refine (rnumber_any _ _ _ _ _ _ _ _ _).mono ?_; rintro e w' ⟨rfl, hb⟩; obtain ⟨hc, hf⟩ := bcell hb) | (go_at_call 54; refine (rreg_any _ _ _ _ hz).mono ?_; rintro e w' ⟨rfl, rfl⟩) | (go_at_call 55; refine (rreach_any _ _ _).mono ?_; rintro e w' ⟨rfl, rfl⟩))
  go_ret
  exact ⟨rfl, by first | exact ((Below.refl _ _).alloc (Nat.le_refl _) _).trans (hb.mono (by simp)) | go_grown⟩
set_option maxHeartbeats 4000000 in
set_option maxRecDepth 100000 in
theorem rc_24c (rd rn rm ra imm cond : Int) (wide : Bool) (w : World) (hz : (Th.rbits 24 wide).size ≤ 64)  (e1 : (Th.rbits 24 wide).toList.isEmpty = false) (e2 : ¬ (Th.rbits 24 wide).toList = []) (t0 : Th.rnumber 24 imm = true) (t1 : Th.rreg (Th.rbits 24 wide) 100 rd = true) (t2 : Th.rreg (Th.rbits 24 wide) 110 rn = true) (t3 : Th.rreg (Th.rbits 24 wide) 109 rm = true) (t4 : Th.rreg (Th.rbits 24 wide) 97 ra = true) (c : (cond != 0) = true) :
    Calls Try.prog 27 #[.agg #[.int .i64 24, .int .i64 rd, .int .i64 rn, .int .i64 rm, .int .i64 ra, .int .i64 imm, .int .i64 cond, .bool wide]] w fun e w' => e = .returned (.int .i64 2) ∧ Below w.heap.size w w' := by
  generalize hB : Th.rbits 24 wide = B at *
  have HB := Lib.hid hB
  clear hB
  go_enter Try.func27, Try.ntmps27
  go_wp2_with (first | go_skip | ((with_reducible refine wpList_take ?_ ?_); exact rfl; intro _ _) | (go_at_call 52; refine (rbits_any _ _ _).mono ?_; rintro e w' ⟨rfl, rfl⟩; rw [HB.out]) | (go_at_call 53; refine (rnumber_any _ _ _ _ _ _ _ _ _).mono ?_; rintro e w' ⟨rfl, hb⟩; obtain ⟨hc, hf⟩ := bcell hb) | (go_at_call 54; refine (rreg_any _ _ _ _ hz).mono ?_; rintro e w' ⟨rfl, rfl⟩) | (go_at_call 55; refine (rreach_any _ _ _).mono ?_; rintro e w' ⟨rfl, rfl⟩))
  go_ret
  exact ⟨rfl, by first | exact ((Below.refl _ _).alloc (Nat.le_refl _) _).trans (hb.mono (by simp)) | go_grown⟩
end Go.Proofs.Ytennhpfhgbmnfaa
