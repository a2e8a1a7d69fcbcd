/-
  Law ThumbOne: at every input the call returns true and each argument reads as it did before.
  Conditions: none but those of the given row.
-/
import Derived.Test.YtiblncogogfgbaaRows
import Derived.Test.YtiblncogogfgbaaThumbE
import Derived.Test.YtiblncogogfgbaaThumbO
import Derived.Test.YtiblncogogfgbaaThumbM7
import Derived.WalkKit
import Derived.ProofKit
import Derived.OpenShut
import Derived.ShutString
import Derived.ChangeOld
import Derived.Below
import Derived.LoopN
namespace Go.Proofs.Ytiblncogogfgbaa.thumbOne
open Go.ChangeShapes Go.WideShapes Go.ChangeAt Go.RowKit
open Go.ChangeMaps (open_string shut_string)
set_option linter.unusedVariables false

theorem own : ownKnob Try.prog.godebug = none := by kernel_rfl
theorem laidOut : laidOutB Try.prog = true := by kernel_rfl

theorem bel_any {w w1 w2 : World} (hb : Below w1.heap.size w1 w2) (h : Below w.heap.size w w1) : Below w.heap.size w w2 := h.trans (hb.mono h.size)
set_option maxHeartbeats 4000000 in
theorem err00 (op0 rd0 rn0 rm0 ra0 imm0 cond0 : Int) (wide0 : Bool) (op1 rd1 rn1 rm1 ra1 imm1 cond1 : Int) (wide1 : Bool) (w : World) (hA : Th.encS ⟨op0, rd0, rn0, rm0, ra0, imm0, cond0, wide0⟩ = ⟨#[]⟩) (ci : (Th.check ⟨op0, rd0, rn0, rm0, ra0, imm0, cond0, wide0⟩ != 0) = true) (ci' : (Th.check ⟨op0, rd0, rn0, rm0, ra0, imm0, cond0, wide0⟩ == 0) = false) (hB : Th.encS ⟨op1, rd1, rn1, rm1, ra1, imm1, cond1, wide1⟩ = ⟨#[]⟩) (ck : (Th.check ⟨op1, rd1, rn1, rm1, ra1, imm1, cond1, wide1⟩ != 0) = true) (ck' : (Th.check ⟨op1, rd1, rn1, rm1, ra1, imm1, cond1, wide1⟩ == 0) = false) :
    Calls Try.prog 5 #[.agg #[.int .i64 op0, .int .i64 rd0, .int .i64 rn0, .int .i64 rm0, .int .i64 ra0, .int .i64 imm0, .int .i64 cond0, .bool wide0], .agg #[.int .i64 op1, .int .i64 rd1, .int .i64 rn1, .int .i64 rm1, .int .i64 ra1, .int .i64 imm1, .int .i64 cond1, .bool wide1]] w fun e w' => e = .returned (.bool true) ∧ Below w.heap.size w w' := by
  go_enter Try.func5, Try.ntmps5
  go_wp2_with fail
  refine (encode_any _ _ _ _ _ _ _ _ _).mono ?_
  rintro e w1 ⟨rfl, hb1⟩
  have z1 : w.heap.size + 1 < w1.heap.size := by have := hb1.size; simp at this; omega
  have I0 := ((ins_alloc w 23 op0 rd0 rn0 rm0 ra0 imm0 cond0 wide0).alloc (by simp) (.cells #[.int .i64 op1, .int .i64 rd1, .int .i64 rn1, .int .i64 rm1, .int .i64 ra1, .int .i64 imm1, .int .i64 cond1, .bool wide1] 23)).below hb1 (by simp; omega)
  have I1 := ins_alloc (w.alloc (.cells #[.int .i64 op0, .int .i64 rd0, .int .i64 rn0, .int .i64 rm0, .int .i64 ra0, .int .i64 imm0, .int .i64 cond0, .bool wide0] 23)) 23 op1 rd1 rn1 rm1 ra1 imm1 cond1 wide1
  rw [show (w.alloc (.cells #[.int .i64 op0, .int .i64 rd0, .int .i64 rn0, .int .i64 rm0, .int .i64 ra0, .int .i64 imm0, .int .i64 cond0, .bool wide0] 23)).heap.size = w.heap.size + 1 by simp] at I1
  have I1 := I1.below hb1 (by simp)
  have B1 : Hid (Below w.heap.size w w1) := bel_any hb1 (bel_alloc (bel_alloc (Below.refl _ _) _) _)
  clear hb1
  go_wp2_with fail
  refine (encode_any _ _ _ _ _ _ _ _ _).mono ?_
  rintro e w2 ⟨rfl, hb2⟩
  have z2 : w.heap.size + 1 < w2.heap.size := by have := hb2.size; omega
  have J0 := I0.below hb2 (by omega)
  have J1 := I1.below hb2 (by omega)
  have B2 : Hid (Below w.heap.size w w2) := bel_any hb2 B1.out
  clear hb2 I0 I1 B1
  go_wp2_with (go_at_call 13; refine (lives_any _).mono ?_; rintro e w4 ⟨rfl, hb4⟩)
  go_ret
  exact ⟨rfl, bel_any hb4 B2.out⟩
set_option maxHeartbeats 4000000 in
theorem err01 (op0 rd0 rn0 rm0 ra0 imm0 cond0 : Int) (wide0 : Bool) (op1 rd1 rn1 rm1 ra1 imm1 cond1 : Int) (wide1 : Bool) (w : World) (hA : Th.encS ⟨op0, rd0, rn0, rm0, ra0, imm0, cond0, wide0⟩ = ⟨#[]⟩) (ci : (Th.check ⟨op0, rd0, rn0, rm0, ra0, imm0, cond0, wide0⟩ != 0) = true) (ci' : (Th.check ⟨op0, rd0, rn0, rm0, ra0, imm0, cond0, wide0⟩ == 0) = false) (ck : Th.check ⟨op1, rd1, rn1, rm1, ra1, imm1, cond1, wide1⟩ = 0) :
    Calls Try.prog 5 #[.agg #[.int .i64 op0, .int .i64 rd0, .int .i64 rn0, .int .i64 rm0, .int .i64 ra0, .int .i64 imm0, .int .i64 cond0, .bool wide0], .agg #[.int .i64 op1, .int .i64 rd1, .int .i64 rn1, .int .i64 rm1, .int .i64 ra1, .int .i64 imm1, .int .i64 cond1, .bool wide1]] w fun e w' => e = .returned (.bool true) ∧ Below w.heap.size w w' := by
  go_enter Try.func5, Try.ntmps5
  go_wp2_with fail
  refine (encode_any _ _ _ _ _ _ _ _ _).mono ?_
  rintro e w1 ⟨rfl, hb1⟩
  have z1 : w.heap.size + 1 < w1.heap.size := by have := hb1.size; simp at this; omega
  have I0 := ((ins_alloc w 23 op0 rd0 rn0 rm0 ra0 imm0 cond0 wide0).alloc (by simp) (.cells #[.int .i64 op1, .int .i64 rd1, .int .i64 rn1, .int .i64 rm1, .int .i64 ra1, .int .i64 imm1, .int .i64 cond1, .bool wide1] 23)).below hb1 (by simp; omega)
  have I1 := ins_alloc (w.alloc (.cells #[.int .i64 op0, .int .i64 rd0, .int .i64 rn0, .int .i64 rm0, .int .i64 ra0, .int .i64 imm0, .int .i64 cond0, .bool wide0] 23)) 23 op1 rd1 rn1 rm1 ra1 imm1 cond1 wide1
  rw [show (w.alloc (.cells #[.int .i64 op0, .int .i64 rd0, .int .i64 rn0, .int .i64 rm0, .int .i64 ra0, .int .i64 imm0, .int .i64 cond0, .bool wide0] 23)).heap.size = w.heap.size + 1 by simp] at I1
  have I1 := I1.below hb1 (by simp)
  have B1 : Hid (Below w.heap.size w w1) := bel_any hb1 (bel_alloc (bel_alloc (Below.refl _ _) _) _)
  clear hb1
  go_wp2_with fail
  refine (encode_any _ _ _ _ _ _ _ _ _).mono ?_
  rintro e w2 ⟨rfl, hb2⟩
  have z2 : w.heap.size + 1 < w2.heap.size := by have := hb2.size; omega
  have J0 := I0.below hb2 (by omega)
  have J1 := I1.below hb2 (by omega)
  have B2 : Hid (Below w.heap.size w w2) := bel_any hb2 B1.out
  clear hb2 I0 I1 B1
  go_wp2_with (go_at_call 13; refine (lives_any _).mono ?_; rintro e w4 ⟨rfl, hb4⟩)
  go_ret
  exact ⟨rfl, bel_any hb4 B2.out⟩
set_option maxHeartbeats 4000000 in
theorem err10 (op0 rd0 rn0 rm0 ra0 imm0 cond0 : Int) (wide0 : Bool) (op1 rd1 rn1 rm1 ra1 imm1 cond1 : Int) (wide1 : Bool) (w : World) (ci : Th.check ⟨op0, rd0, rn0, rm0, ra0, imm0, cond0, wide0⟩ = 0) (hB : Th.encS ⟨op1, rd1, rn1, rm1, ra1, imm1, cond1, wide1⟩ = ⟨#[]⟩) (ck : (Th.check ⟨op1, rd1, rn1, rm1, ra1, imm1, cond1, wide1⟩ != 0) = true) (ck' : (Th.check ⟨op1, rd1, rn1, rm1, ra1, imm1, cond1, wide1⟩ == 0) = false) :
    Calls Try.prog 5 #[.agg #[.int .i64 op0, .int .i64 rd0, .int .i64 rn0, .int .i64 rm0, .int .i64 ra0, .int .i64 imm0, .int .i64 cond0, .bool wide0], .agg #[.int .i64 op1, .int .i64 rd1, .int .i64 rn1, .int .i64 rm1, .int .i64 ra1, .int .i64 imm1, .int .i64 cond1, .bool wide1]] w fun e w' => e = .returned (.bool true) ∧ Below w.heap.size w w' := by
  go_enter Try.func5, Try.ntmps5
  go_wp2_with fail
  refine (encode_any _ _ _ _ _ _ _ _ _).mono ?_
  rintro e w1 ⟨rfl, hb1⟩
  have z1 : w.heap.size + 1 < w1.heap.size := by have := hb1.size; simp at this; omega
  have I0 := ((ins_alloc w 23 op0 rd0 rn0 rm0 ra0 imm0 cond0 wide0).alloc (by simp) (.cells #[.int .i64 op1, .int .i64 rd1, .int .i64 rn1, .int .i64 rm1, .int .i64 ra1, .int .i64 imm1, .int .i64 cond1, .bool wide1] 23)).below hb1 (by simp; omega)
  have I1 := ins_alloc (w.alloc (.cells #[.int .i64 op0, .int .i64 rd0, .int .i64 rn0, .int .i64 rm0, .int .i64 ra0, .int .i64 imm0, .int .i64 cond0, .bool wide0] 23)) 23 op1 rd1 rn1 rm1 ra1 imm1 cond1 wide1
  rw [show (w.alloc (.cells #[.int .i64 op0, .int .i64 rd0, .int .i64 rn0, .int .i64 rm0, .int .i64 ra0, .int .i64 imm0, .int .i64 cond0, .bool wide0] 23)).heap.size = w.heap.size + 1 by simp] at I1
  have I1 := I1.below hb1 (by simp)
  have B1 : Hid (Below w.heap.size w w1) := bel_any hb1 (bel_alloc (bel_alloc (Below.refl _ _) _) _)
  clear hb1
  go_wp2_with fail
  refine (encode_any _ _ _ _ _ _ _ _ _).mono ?_
  rintro e w2 ⟨rfl, hb2⟩
  have z2 : w.heap.size + 1 < w2.heap.size := by have := hb2.size; omega
  have J0 := I0.below hb2 (by omega)
  have J1 := I1.below hb2 (by omega)
  have B2 : Hid (Below w.heap.size w w2) := bel_any hb2 B1.out
  clear hb2 I0 I1 B1
  go_wp2_with (go_at_call 13; refine (lives_any _).mono ?_; rintro e w4 ⟨rfl, hb4⟩)
  go_ret
  exact ⟨rfl, bel_any hb4 B2.out⟩
set_option maxHeartbeats 4000000 in
theorem diff22 (op0 rd0 rn0 rm0 ra0 imm0 cond0 : Int) (wide0 : Bool) (op1 rd1 rn1 rm1 ra1 imm1 cond1 : Int) (wide1 : Bool) (w : World) (x0 x1 y0 y1 : UInt8) (hA : Th.encS ⟨op0, rd0, rn0, rm0, ra0, imm0, cond0, wide0⟩ = ⟨#[x0, x1]⟩) (hB : Th.encS ⟨op1, rd1, rn1, rm1, ra1, imm1, cond1, wide1⟩ = ⟨#[y0, y1]⟩) (ci : Th.check ⟨op0, rd0, rn0, rm0, ra0, imm0, cond0, wide0⟩ = 0) (ck : Th.check ⟨op1, rd1, rn1, rm1, ra1, imm1, cond1, wide1⟩ = 0) (hs : Th.size ⟨op0, rd0, rn0, rm0, ra0, imm0, cond0, wide0⟩ = 2) (hS : (x0 == y0 && x1 == y1) = false) (hE : ∀ w : World, ((if op0 = op1 then (if rd0 = rd1 then (if rn0 = rn1 then (if rm0 = rm1 then (if ra0 = ra1 then (if imm0 = imm1 then (if cond0 = cond1 then (if wide0 = wide1 then Result.ok (Next.value (Value.bool true)) w else Result.ok (Next.value (Value.bool false)) w) else Result.ok (Next.value (Value.bool false)) w) else Result.ok (Next.value (Value.bool false)) w) else Result.ok (Next.value (Value.bool false)) w) else Result.ok (Next.value (Value.bool false)) w) else Result.ok (Next.value (Value.bool false)) w) else Result.ok (Next.value (Value.bool false)) w) else Result.ok (Next.value (Value.bool false)) w) : Result Next) = Result.ok (Next.value (Value.bool false)) w) :
    Calls Try.prog 5 #[.agg #[.int .i64 op0, .int .i64 rd0, .int .i64 rn0, .int .i64 rm0, .int .i64 ra0, .int .i64 imm0, .int .i64 cond0, .bool wide0], .agg #[.int .i64 op1, .int .i64 rd1, .int .i64 rn1, .int .i64 rm1, .int .i64 ra1, .int .i64 imm1, .int .i64 cond1, .bool wide1]] w fun e w' => e = .returned (.bool true) ∧ Below w.heap.size w w' := by
  have e1 : (⟨#[x0, x1]⟩ : ByteArray).extract 0 2 = ⟨#[x0, x1]⟩ := rfl
  have e2 : (⟨#[y0, y1]⟩ : ByteArray).extract 0 2 = ⟨#[y0, y1]⟩ := rfl
  go_enter Try.func5, Try.ntmps5
  go_wp2_with fail
  refine (encode_any _ _ _ _ _ _ _ _ _).mono ?_
  rintro e w1 ⟨rfl, hb1⟩
  have z1 : w.heap.size + 1 < w1.heap.size := by have := hb1.size; simp at this; omega
  have I0 := ((ins_alloc w 23 op0 rd0 rn0 rm0 ra0 imm0 cond0 wide0).alloc (by simp) (.cells #[.int .i64 op1, .int .i64 rd1, .int .i64 rn1, .int .i64 rm1, .int .i64 ra1, .int .i64 imm1, .int .i64 cond1, .bool wide1] 23)).below hb1 (by simp; omega)
  have I1 := ins_alloc (w.alloc (.cells #[.int .i64 op0, .int .i64 rd0, .int .i64 rn0, .int .i64 rm0, .int .i64 ra0, .int .i64 imm0, .int .i64 cond0, .bool wide0] 23)) 23 op1 rd1 rn1 rm1 ra1 imm1 cond1 wide1
  rw [show (w.alloc (.cells #[.int .i64 op0, .int .i64 rd0, .int .i64 rn0, .int .i64 rm0, .int .i64 ra0, .int .i64 imm0, .int .i64 cond0, .bool wide0] 23)).heap.size = w.heap.size + 1 by simp] at I1
  have I1 := I1.below hb1 (by simp)
  have B1 : Hid (Below w.heap.size w w1) := bel_any hb1 (bel_alloc (bel_alloc (Below.refl _ _) _) _)
  clear hb1
  go_wp2_with fail
  refine (encode_any _ _ _ _ _ _ _ _ _).mono ?_
  rintro e w2 ⟨rfl, hb2⟩
  have z2 : w.heap.size + 1 < w2.heap.size := by have := hb2.size; omega
  have J0 := I0.below hb2 (by omega)
  have J1 := I1.below hb2 (by omega)
  have B2 : Hid (Below w.heap.size w w2) := bel_any hb2 B1.out
  clear hb2 I0 I1 B1
  go_wp2
  go_region_held3 (fun wx => Below w2.heap.size w2 wx ∧ InsAt wx w.heap.size op0 rd0 rn0 rm0 ra0 imm0 cond0 wide0 ∧ InsAt wx (w.heap.size + 1) op1 rd1 rn1 rm1 ra1 imm1 cond1 wide1)
    (first | exact ⟨(Below.refl _ _).drew, J0, J1⟩ | exact sx_step (by assumption) (by assumption) (by omega) (by omega))
    (first | (go_at_call 11; refine (size_any _ _ _ _ _ _ _ _ _).mono ?_; rintro e w3 ⟨rfl, hb3⟩) | (go_at_call 13; refine (lives_any _).mono ?_; rintro e w4 ⟨rfl, hb4⟩))
  rename_i hH
  go_wp2
  go_ret
  exact ⟨rfl, B2.out.trans (hH.1.mono (by omega))⟩
set_option maxHeartbeats 4000000 in
theorem diff24 (op0 rd0 rn0 rm0 ra0 imm0 cond0 : Int) (wide0 : Bool) (op1 rd1 rn1 rm1 ra1 imm1 cond1 : Int) (wide1 : Bool) (w : World) (x0 x1 y0 y1 y2 y3 : UInt8) (hA : Th.encS ⟨op0, rd0, rn0, rm0, ra0, imm0, cond0, wide0⟩ = ⟨#[x0, x1]⟩) (hB : Th.encS ⟨op1, rd1, rn1, rm1, ra1, imm1, cond1, wide1⟩ = ⟨#[y0, y1, y2, y3]⟩) (ci : Th.check ⟨op0, rd0, rn0, rm0, ra0, imm0, cond0, wide0⟩ = 0) (ck : Th.check ⟨op1, rd1, rn1, rm1, ra1, imm1, cond1, wide1⟩ = 0) (hs : Th.size ⟨op0, rd0, rn0, rm0, ra0, imm0, cond0, wide0⟩ = 2) (hS : (x0 == y0 && x1 == y1) = false) (hE : ∀ w : World, ((if op0 = op1 then (if rd0 = rd1 then (if rn0 = rn1 then (if rm0 = rm1 then (if ra0 = ra1 then (if imm0 = imm1 then (if cond0 = cond1 then (if wide0 = wide1 then Result.ok (Next.value (Value.bool true)) w else Result.ok (Next.value (Value.bool false)) w) else Result.ok (Next.value (Value.bool false)) w) else Result.ok (Next.value (Value.bool false)) w) else Result.ok (Next.value (Value.bool false)) w) else Result.ok (Next.value (Value.bool false)) w) else Result.ok (Next.value (Value.bool false)) w) else Result.ok (Next.value (Value.bool false)) w) else Result.ok (Next.value (Value.bool false)) w) : Result Next) = Result.ok (Next.value (Value.bool false)) w) :
    Calls Try.prog 5 #[.agg #[.int .i64 op0, .int .i64 rd0, .int .i64 rn0, .int .i64 rm0, .int .i64 ra0, .int .i64 imm0, .int .i64 cond0, .bool wide0], .agg #[.int .i64 op1, .int .i64 rd1, .int .i64 rn1, .int .i64 rm1, .int .i64 ra1, .int .i64 imm1, .int .i64 cond1, .bool wide1]] w fun e w' => e = .returned (.bool true) ∧ Below w.heap.size w w' := by
  have e1 : (⟨#[x0, x1]⟩ : ByteArray).extract 0 2 = ⟨#[x0, x1]⟩ := rfl
  have e2 : (⟨#[y0, y1, y2, y3]⟩ : ByteArray).extract 0 2 = ⟨#[y0, y1]⟩ := rfl
  go_enter Try.func5, Try.ntmps5
  go_wp2_with fail
  refine (encode_any _ _ _ _ _ _ _ _ _).mono ?_
  rintro e w1 ⟨rfl, hb1⟩
  have z1 : w.heap.size + 1 < w1.heap.size := by have := hb1.size; simp at this; omega
  have I0 := ((ins_alloc w 23 op0 rd0 rn0 rm0 ra0 imm0 cond0 wide0).alloc (by simp) (.cells #[.int .i64 op1, .int .i64 rd1, .int .i64 rn1, .int .i64 rm1, .int .i64 ra1, .int .i64 imm1, .int .i64 cond1, .bool wide1] 23)).below hb1 (by simp; omega)
  have I1 := ins_alloc (w.alloc (.cells #[.int .i64 op0, .int .i64 rd0, .int .i64 rn0, .int .i64 rm0, .int .i64 ra0, .int .i64 imm0, .int .i64 cond0, .bool wide0] 23)) 23 op1 rd1 rn1 rm1 ra1 imm1 cond1 wide1
  rw [show (w.alloc (.cells #[.int .i64 op0, .int .i64 rd0, .int .i64 rn0, .int .i64 rm0, .int .i64 ra0, .int .i64 imm0, .int .i64 cond0, .bool wide0] 23)).heap.size = w.heap.size + 1 by simp] at I1
  have I1 := I1.below hb1 (by simp)
  have B1 : Hid (Below w.heap.size w w1) := bel_any hb1 (bel_alloc (bel_alloc (Below.refl _ _) _) _)
  clear hb1
  go_wp2_with fail
  refine (encode_any _ _ _ _ _ _ _ _ _).mono ?_
  rintro e w2 ⟨rfl, hb2⟩
  have z2 : w.heap.size + 1 < w2.heap.size := by have := hb2.size; omega
  have J0 := I0.below hb2 (by omega)
  have J1 := I1.below hb2 (by omega)
  have B2 : Hid (Below w.heap.size w w2) := bel_any hb2 B1.out
  clear hb2 I0 I1 B1
  go_wp2
  go_region_held3 (fun wx => Below w2.heap.size w2 wx ∧ InsAt wx w.heap.size op0 rd0 rn0 rm0 ra0 imm0 cond0 wide0 ∧ InsAt wx (w.heap.size + 1) op1 rd1 rn1 rm1 ra1 imm1 cond1 wide1)
    (first | exact ⟨(Below.refl _ _).drew, J0, J1⟩ | exact sx_step (by assumption) (by assumption) (by omega) (by omega))
    (first | (go_at_call 11; refine (size_any _ _ _ _ _ _ _ _ _).mono ?_; rintro e w3 ⟨rfl, hb3⟩) | (go_at_call 13; refine (lives_any _).mono ?_; rintro e w4 ⟨rfl, hb4⟩))
  rename_i hH
  go_wp2
  go_ret
  exact ⟨rfl, B2.out.trans (hH.1.mono (by omega))⟩
set_option maxHeartbeats 4000000 in
theorem diff42 (op0 rd0 rn0 rm0 ra0 imm0 cond0 : Int) (wide0 : Bool) (op1 rd1 rn1 rm1 ra1 imm1 cond1 : Int) (wide1 : Bool) (w : World) (x0 x1 x2 x3 y0 y1 : UInt8) (hA : Th.encS ⟨op0, rd0, rn0, rm0, ra0, imm0, cond0, wide0⟩ = ⟨#[x0, x1, x2, x3]⟩) (hB : Th.encS ⟨op1, rd1, rn1, rm1, ra1, imm1, cond1, wide1⟩ = ⟨#[y0, y1]⟩) (ci : Th.check ⟨op0, rd0, rn0, rm0, ra0, imm0, cond0, wide0⟩ = 0) (ck : Th.check ⟨op1, rd1, rn1, rm1, ra1, imm1, cond1, wide1⟩ = 0) (hs : Th.size ⟨op0, rd0, rn0, rm0, ra0, imm0, cond0, wide0⟩ = 4) (hS : (x0 == y0 && x1 == y1) = false) (hE : ∀ w : World, ((if op0 = op1 then (if rd0 = rd1 then (if rn0 = rn1 then (if rm0 = rm1 then (if ra0 = ra1 then (if imm0 = imm1 then (if cond0 = cond1 then (if wide0 = wide1 then Result.ok (Next.value (Value.bool true)) w else Result.ok (Next.value (Value.bool false)) w) else Result.ok (Next.value (Value.bool false)) w) else Result.ok (Next.value (Value.bool false)) w) else Result.ok (Next.value (Value.bool false)) w) else Result.ok (Next.value (Value.bool false)) w) else Result.ok (Next.value (Value.bool false)) w) else Result.ok (Next.value (Value.bool false)) w) else Result.ok (Next.value (Value.bool false)) w) : Result Next) = Result.ok (Next.value (Value.bool false)) w) :
    Calls Try.prog 5 #[.agg #[.int .i64 op0, .int .i64 rd0, .int .i64 rn0, .int .i64 rm0, .int .i64 ra0, .int .i64 imm0, .int .i64 cond0, .bool wide0], .agg #[.int .i64 op1, .int .i64 rd1, .int .i64 rn1, .int .i64 rm1, .int .i64 ra1, .int .i64 imm1, .int .i64 cond1, .bool wide1]] w fun e w' => e = .returned (.bool true) ∧ Below w.heap.size w w' := by
  have e1 : (⟨#[x0, x1, x2, x3]⟩ : ByteArray).extract 0 2 = ⟨#[x0, x1]⟩ := rfl
  have e2 : (⟨#[y0, y1]⟩ : ByteArray).extract 0 2 = ⟨#[y0, y1]⟩ := rfl
  go_enter Try.func5, Try.ntmps5
  go_wp2_with fail
  refine (encode_any _ _ _ _ _ _ _ _ _).mono ?_
  rintro e w1 ⟨rfl, hb1⟩
  have z1 : w.heap.size + 1 < w1.heap.size := by have := hb1.size; simp at this; omega
  have I0 := ((ins_alloc w 23 op0 rd0 rn0 rm0 ra0 imm0 cond0 wide0).alloc (by simp) (.cells #[.int .i64 op1, .int .i64 rd1, .int .i64 rn1, .int .i64 rm1, .int .i64 ra1, .int .i64 imm1, .int .i64 cond1, .bool wide1] 23)).below hb1 (by simp; omega)
  have I1 := ins_alloc (w.alloc (.cells #[.int .i64 op0, .int .i64 rd0, .int .i64 rn0, .int .i64 rm0, .int .i64 ra0, .int .i64 imm0, .int .i64 cond0, .bool wide0] 23)) 23 op1 rd1 rn1 rm1 ra1 imm1 cond1 wide1
  rw [show (w.alloc (.cells #[.int .i64 op0, .int .i64 rd0, .int .i64 rn0, .int .i64 rm0, .int .i64 ra0, .int .i64 imm0, .int .i64 cond0, .bool wide0] 23)).heap.size = w.heap.size + 1 by simp] at I1
  have I1 := I1.below hb1 (by simp)
  have B1 : Hid (Below w.heap.size w w1) := bel_any hb1 (bel_alloc (bel_alloc (Below.refl _ _) _) _)
  clear hb1
  go_wp2_with fail
  refine (encode_any _ _ _ _ _ _ _ _ _).mono ?_
  rintro e w2 ⟨rfl, hb2⟩
  have z2 : w.heap.size + 1 < w2.heap.size := by have := hb2.size; omega
  have J0 := I0.below hb2 (by omega)
  have J1 := I1.below hb2 (by omega)
  have B2 : Hid (Below w.heap.size w w2) := bel_any hb2 B1.out
  clear hb2 I0 I1 B1
  go_wp2
  go_region_held3 (fun wx => Below w2.heap.size w2 wx ∧ InsAt wx w.heap.size op0 rd0 rn0 rm0 ra0 imm0 cond0 wide0 ∧ InsAt wx (w.heap.size + 1) op1 rd1 rn1 rm1 ra1 imm1 cond1 wide1)
    (first | exact ⟨(Below.refl _ _).drew, J0, J1⟩ | exact sx_step (by assumption) (by assumption) (by omega) (by omega))
    (first | (go_at_call 11; refine (size_any _ _ _ _ _ _ _ _ _).mono ?_; rintro e w3 ⟨rfl, hb3⟩) | (go_at_call 13; refine (lives_any _).mono ?_; rintro e w4 ⟨rfl, hb4⟩))
  rename_i hH
  go_wp2
  go_ret
  exact ⟨rfl, B2.out.trans (hH.1.mono (by omega))⟩
set_option maxHeartbeats 4000000 in
theorem diff44 (op0 rd0 rn0 rm0 ra0 imm0 cond0 : Int) (wide0 : Bool) (op1 rd1 rn1 rm1 ra1 imm1 cond1 : Int) (wide1 : Bool) (w : World) (x0 x1 x2 x3 y0 y1 y2 y3 : UInt8) (hA : Th.encS ⟨op0, rd0, rn0, rm0, ra0, imm0, cond0, wide0⟩ = ⟨#[x0, x1, x2, x3]⟩) (hB : Th.encS ⟨op1, rd1, rn1, rm1, ra1, imm1, cond1, wide1⟩ = ⟨#[y0, y1, y2, y3]⟩) (ci : Th.check ⟨op0, rd0, rn0, rm0, ra0, imm0, cond0, wide0⟩ = 0) (ck : Th.check ⟨op1, rd1, rn1, rm1, ra1, imm1, cond1, wide1⟩ = 0) (hs : Th.size ⟨op0, rd0, rn0, rm0, ra0, imm0, cond0, wide0⟩ = 4) (hS : (x0 == y0 && (x1 == y1 && (x2 == y2 && x3 == y3))) = false) (hE : ∀ w : World, ((if op0 = op1 then (if rd0 = rd1 then (if rn0 = rn1 then (if rm0 = rm1 then (if ra0 = ra1 then (if imm0 = imm1 then (if cond0 = cond1 then (if wide0 = wide1 then Result.ok (Next.value (Value.bool true)) w else Result.ok (Next.value (Value.bool false)) w) else Result.ok (Next.value (Value.bool false)) w) else Result.ok (Next.value (Value.bool false)) w) else Result.ok (Next.value (Value.bool false)) w) else Result.ok (Next.value (Value.bool false)) w) else Result.ok (Next.value (Value.bool false)) w) else Result.ok (Next.value (Value.bool false)) w) else Result.ok (Next.value (Value.bool false)) w) : Result Next) = Result.ok (Next.value (Value.bool false)) w) :
    Calls Try.prog 5 #[.agg #[.int .i64 op0, .int .i64 rd0, .int .i64 rn0, .int .i64 rm0, .int .i64 ra0, .int .i64 imm0, .int .i64 cond0, .bool wide0], .agg #[.int .i64 op1, .int .i64 rd1, .int .i64 rn1, .int .i64 rm1, .int .i64 ra1, .int .i64 imm1, .int .i64 cond1, .bool wide1]] w fun e w' => e = .returned (.bool true) ∧ Below w.heap.size w w' := by
  have e1 : (⟨#[x0, x1, x2, x3]⟩ : ByteArray).extract 0 4 = ⟨#[x0, x1, x2, x3]⟩ := rfl
  have e2 : (⟨#[y0, y1, y2, y3]⟩ : ByteArray).extract 0 4 = ⟨#[y0, y1, y2, y3]⟩ := rfl
  go_enter Try.func5, Try.ntmps5
  go_wp2_with fail
  refine (encode_any _ _ _ _ _ _ _ _ _).mono ?_
  rintro e w1 ⟨rfl, hb1⟩
  have z1 : w.heap.size + 1 < w1.heap.size := by have := hb1.size; simp at this; omega
  have I0 := ((ins_alloc w 23 op0 rd0 rn0 rm0 ra0 imm0 cond0 wide0).alloc (by simp) (.cells #[.int .i64 op1, .int .i64 rd1, .int .i64 rn1, .int .i64 rm1, .int .i64 ra1, .int .i64 imm1, .int .i64 cond1, .bool wide1] 23)).below hb1 (by simp; omega)
  have I1 := ins_alloc (w.alloc (.cells #[.int .i64 op0, .int .i64 rd0, .int .i64 rn0, .int .i64 rm0, .int .i64 ra0, .int .i64 imm0, .int .i64 cond0, .bool wide0] 23)) 23 op1 rd1 rn1 rm1 ra1 imm1 cond1 wide1
  rw [show (w.alloc (.cells #[.int .i64 op0, .int .i64 rd0, .int .i64 rn0, .int .i64 rm0, .int .i64 ra0, .int .i64 imm0, .int .i64 cond0, .bool wide0] 23)).heap.size = w.heap.size + 1 by simp] at I1
  have I1 := I1.below hb1 (by simp)
  have B1 : Hid (Below w.heap.size w w1) := bel_any hb1 (bel_alloc (bel_alloc (Below.refl _ _) _) _)
  clear hb1
  go_wp2_with fail
  refine (encode_any _ _ _ _ _ _ _ _ _).mono ?_
  rintro e w2 ⟨rfl, hb2⟩
  have z2 : w.heap.size + 1 < w2.heap.size := by have := hb2.size; omega
  have J0 := I0.below hb2 (by omega)
  have J1 := I1.below hb2 (by omega)
  have B2 : Hid (Below w.heap.size w w2) := bel_any hb2 B1.out
  clear hb2 I0 I1 B1
  go_wp2
  go_region_held3 (fun wx => Below w2.heap.size w2 wx ∧ InsAt wx w.heap.size op0 rd0 rn0 rm0 ra0 imm0 cond0 wide0 ∧ InsAt wx (w.heap.size + 1) op1 rd1 rn1 rm1 ra1 imm1 cond1 wide1)
    (first | exact ⟨(Below.refl _ _).drew, J0, J1⟩ | exact sx_step (by assumption) (by assumption) (by omega) (by omega))
    (first | (go_at_call 11; refine (size_any _ _ _ _ _ _ _ _ _).mono ?_; rintro e w3 ⟨rfl, hb3⟩) | (go_at_call 13; refine (lives_any _).mono ?_; rintro e w4 ⟨rfl, hb4⟩))
  rename_i hH
  go_wp2
  go_ret
  exact ⟨rfl, B2.out.trans (hH.1.mono (by omega))⟩
set_option maxHeartbeats 4000000 in
theorem same2 (op0 rd0 rn0 rm0 ra0 imm0 cond0 : Int) (wide0 : Bool) (w : World) (x0 x1 : UInt8) (hA : Th.encS ⟨op0, rd0, rn0, rm0, ra0, imm0, cond0, wide0⟩ = ⟨#[x0, x1]⟩) (ci : Th.check ⟨op0, rd0, rn0, rm0, ra0, imm0, cond0, wide0⟩ = 0) (hs : Th.size ⟨op0, rd0, rn0, rm0, ra0, imm0, cond0, wide0⟩ = 2) :
    Calls Try.prog 5 #[.agg #[.int .i64 op0, .int .i64 rd0, .int .i64 rn0, .int .i64 rm0, .int .i64 ra0, .int .i64 imm0, .int .i64 cond0, .bool wide0], .agg #[.int .i64 op0, .int .i64 rd0, .int .i64 rn0, .int .i64 rm0, .int .i64 ra0, .int .i64 imm0, .int .i64 cond0, .bool wide0]] w fun e w' => e = .returned (.bool true) ∧ Below w.heap.size w w' := by
  have e1 : (⟨#[x0, x1]⟩ : ByteArray).extract 0 2 = ⟨#[x0, x1]⟩ := rfl
  go_enter Try.func5, Try.ntmps5
  go_wp2_with fail
  refine (encode_any _ _ _ _ _ _ _ _ _).mono ?_
  rintro e w1 ⟨rfl, hb1⟩
  have z1 : w.heap.size + 1 < w1.heap.size := by have := hb1.size; simp at this; omega
  have I0 := ((ins_alloc w 23 op0 rd0 rn0 rm0 ra0 imm0 cond0 wide0).alloc (by simp) (.cells #[.int .i64 op0, .int .i64 rd0, .int .i64 rn0, .int .i64 rm0, .int .i64 ra0, .int .i64 imm0, .int .i64 cond0, .bool wide0] 23)).below hb1 (by simp; omega)
  have I1 := ins_alloc (w.alloc (.cells #[.int .i64 op0, .int .i64 rd0, .int .i64 rn0, .int .i64 rm0, .int .i64 ra0, .int .i64 imm0, .int .i64 cond0, .bool wide0] 23)) 23 op0 rd0 rn0 rm0 ra0 imm0 cond0 wide0
  rw [show (w.alloc (.cells #[.int .i64 op0, .int .i64 rd0, .int .i64 rn0, .int .i64 rm0, .int .i64 ra0, .int .i64 imm0, .int .i64 cond0, .bool wide0] 23)).heap.size = w.heap.size + 1 by simp] at I1
  have I1 := I1.below hb1 (by simp)
  have B1 : Hid (Below w.heap.size w w1) := bel_any hb1 (bel_alloc (bel_alloc (Below.refl _ _) _) _)
  clear hb1
  go_wp2_with fail
  refine (encode_any _ _ _ _ _ _ _ _ _).mono ?_
  rintro e w2 ⟨rfl, hb2⟩
  have z2 : w.heap.size + 1 < w2.heap.size := by have := hb2.size; omega
  have J0 := I0.below hb2 (by omega)
  have J1 := I1.below hb2 (by omega)
  have B2 : Hid (Below w.heap.size w w2) := bel_any hb2 B1.out
  clear hb2 I0 I1 B1
  go_wp2
  go_region_held3 (fun wx => Below w2.heap.size w2 wx ∧ InsAt wx w.heap.size op0 rd0 rn0 rm0 ra0 imm0 cond0 wide0 ∧ InsAt wx (w.heap.size + 1) op0 rd0 rn0 rm0 ra0 imm0 cond0 wide0)
    (first | exact ⟨(Below.refl _ _).drew, J0, J1⟩ | exact sx_step (by assumption) (by assumption) (by omega) (by omega))
    (first | (go_at_call 11; refine (size_any _ _ _ _ _ _ _ _ _).mono ?_; rintro e w3 ⟨rfl, hb3⟩) | (go_at_call 13; refine (lives_any _).mono ?_; rintro e w4 ⟨rfl, hb4⟩))
  rename_i hH
  go_wp2
  go_ret
  exact ⟨rfl, B2.out.trans (hH.1.mono (by omega))⟩
set_option maxHeartbeats 4000000 in
theorem same4 (op0 rd0 rn0 rm0 ra0 imm0 cond0 : Int) (wide0 : Bool) (w : World) (x0 x1 x2 x3 : UInt8) (hA : Th.encS ⟨op0, rd0, rn0, rm0, ra0, imm0, cond0, wide0⟩ = ⟨#[x0, x1, x2, x3]⟩) (ci : Th.check ⟨op0, rd0, rn0, rm0, ra0, imm0, cond0, wide0⟩ = 0) (hs : Th.size ⟨op0, rd0, rn0, rm0, ra0, imm0, cond0, wide0⟩ = 4) :
    Calls Try.prog 5 #[.agg #[.int .i64 op0, .int .i64 rd0, .int .i64 rn0, .int .i64 rm0, .int .i64 ra0, .int .i64 imm0, .int .i64 cond0, .bool wide0], .agg #[.int .i64 op0, .int .i64 rd0, .int .i64 rn0, .int .i64 rm0, .int .i64 ra0, .int .i64 imm0, .int .i64 cond0, .bool wide0]] w fun e w' => e = .returned (.bool true) ∧ Below w.heap.size w w' := by
  have e1 : (⟨#[x0, x1, x2, x3]⟩ : ByteArray).extract 0 4 = ⟨#[x0, x1, x2, x3]⟩ := rfl
  go_enter Try.func5, Try.ntmps5
  go_wp2_with fail
  refine (encode_any _ _ _ _ _ _ _ _ _).mono ?_
  rintro e w1 ⟨rfl, hb1⟩
  have z1 : w.heap.size + 1 < w1.heap.size := by have := hb1.size; simp at this; omega
  have I0 := ((ins_alloc w 23 op0 rd0 rn0 rm0 ra0 imm0 cond0 wide0).alloc (by simp) (.cells #[.int .i64 op0, .int .i64 rd0, .int .i64 rn0, .int .i64 rm0, .int .i64 ra0, .int .i64 imm0, .int .i64 cond0, .bool wide0] 23)).below hb1 (by simp; omega)
  have I1 := ins_alloc (w.alloc (.cells #[.int .i64 op0, .int .i64 rd0, .int .i64 rn0, .int .i64 rm0, .int .i64 ra0, .int .i64 imm0, .int .i64 cond0, .bool wide0] 23)) 23 op0 rd0 rn0 rm0 ra0 imm0 cond0 wide0
  rw [show (w.alloc (.cells #[.int .i64 op0, .int .i64 rd0, .int .i64 rn0, .int .i64 rm0, .int .i64 ra0, .int .i64 imm0, .int .i64 cond0, .bool wide0] 23)).heap.size = w.heap.size + 1 by simp] at I1
  have I1 := I1.below hb1 (by simp)
  have B1 : Hid (Below w.heap.size w w1) := bel_any hb1 (bel_alloc (bel_alloc (Below.refl _ _) _) _)
  clear hb1
  go_wp2_with fail
  refine (encode_any _ _ _ _ _ _ _ _ _).mono ?_
  rintro e w2 ⟨rfl, hb2⟩
  have z2 : w.heap.size + 1 < w2.heap.size := by have := hb2.size; omega
  have J0 := I0.below hb2 (by omega)
  have J1 := I1.below hb2 (by omega)
  have B2 : Hid (Below w.heap.size w w2) := bel_any hb2 B1.out
  clear hb2 I0 I1 B1
  go_wp2
  go_region_held3 (fun wx => Below w2.heap.size w2 wx ∧ InsAt wx w.heap.size op0 rd0 rn0 rm0 ra0 imm0 cond0 wide0 ∧ InsAt wx (w.heap.size + 1) op0 rd0 rn0 rm0 ra0 imm0 cond0 wide0)
    (first | exact ⟨(Below.refl _ _).drew, J0, J1⟩ | exact sx_step (by assumption) (by assumption) (by omega) (by omega))
    (first | (go_at_call 11; refine (size_any _ _ _ _ _ _ _ _ _).mono ?_; rintro e w3 ⟨rfl, hb3⟩) | (go_at_call 13; refine (lives_any _).mono ?_; rintro e w4 ⟨rfl, hb4⟩))
  rename_i hH
  go_wp2
  go_ret
  exact ⟨rfl, B2.out.trans (hH.1.mono (by omega))⟩
theorem walk (op0 rd0 rn0 rm0 ra0 imm0 cond0 : Int) (wide0 : Bool) (op1 rd1 rn1 rm1 ra1 imm1 cond1 : Int) (wide1 : Bool) (w : World) :
    Calls Try.prog 5 #[.agg #[.int .i64 op0, .int .i64 rd0, .int .i64 rn0, .int .i64 rm0, .int .i64 ra0, .int .i64 imm0, .int .i64 cond0, .bool wide0], .agg #[.int .i64 op1, .int .i64 rd1, .int .i64 rn1, .int .i64 rm1, .int .i64 ra1, .int .i64 imm1, .int .i64 cond1, .bool wide1]] w fun e w' => e = .returned (.bool true) ∧ Below w.heap.size w w' := by
  by_cases ci : Th.check ⟨op0, rd0, rn0, rm0, ra0, imm0, cond0, wide0⟩ = 0
  case neg =>
    have hA : Th.encS ⟨op0, rd0, rn0, rm0, ra0, imm0, cond0, wide0⟩ = ⟨#[]⟩ := if_neg ci
    have c1 : (Th.check ⟨op0, rd0, rn0, rm0, ra0, imm0, cond0, wide0⟩ != 0) = true := by simp [ci]
    have c2 : (Th.check ⟨op0, rd0, rn0, rm0, ra0, imm0, cond0, wide0⟩ == 0) = false := by simp [ci]
    by_cases ck : Th.check ⟨op1, rd1, rn1, rm1, ra1, imm1, cond1, wide1⟩ = 0
    · exact err01 _ _ _ _ _ _ _ _ _ _ _ _ _ _ _ _ w hA c1 c2 ck
    · exact err00 _ _ _ _ _ _ _ _ _ _ _ _ _ _ _ _ w hA c1 c2 (if_neg ck) (by simp [ck]) (by simp [ck])
  by_cases ck : Th.check ⟨op1, rd1, rn1, rm1, ra1, imm1, cond1, wide1⟩ = 0
  case neg => exact err10 _ _ _ _ _ _ _ _ _ _ _ _ _ _ _ _ w ci (if_neg ck) (by simp [ck]) (by simp [ck])
  have zi := Th.size_num _ ci
  have zk := Th.size_num _ ck
  by_cases he : (⟨op0, rd0, rn0, rm0, ra0, imm0, cond0, wide0⟩ : Th.Ins) = ⟨op1, rd1, rn1, rm1, ra1, imm1, cond1, wide1⟩
  · simp only [Th.Ins.mk.injEq] at he
    obtain ⟨rfl, rfl, rfl, rfl, rfl, rfl, rfl, rfl⟩ := he
    rcases zi with ⟨zi, _⟩ | ⟨zi, _⟩
    · exact same2 _ _ _ _ _ _ _ _ w _ _ (Th.encS2 _ ci zi) ci zi
    · exact same4 _ _ _ _ _ _ _ _ w _ _ _ _ (Th.encS4 _ ci zi) ci zi
  · have hE : ∀ w : World, ((if op0 = op1 then (if rd0 = rd1 then (if rn0 = rn1 then (if rm0 = rm1 then (if ra0 = ra1 then (if imm0 = imm1 then (if cond0 = cond1 then (if wide0 = wide1 then Result.ok (Next.value (Value.bool true)) w else Result.ok (Next.value (Value.bool false)) w) else Result.ok (Next.value (Value.bool false)) w) else Result.ok (Next.value (Value.bool false)) w) else Result.ok (Next.value (Value.bool false)) w) else Result.ok (Next.value (Value.bool false)) w) else Result.ok (Next.value (Value.bool false)) w) else Result.ok (Next.value (Value.bool false)) w) else Result.ok (Next.value (Value.bool false)) w) : Result Next) = Result.ok (Next.value (Value.bool false)) w := by
      intro w
      by_cases h0 : op0 = op1
      case neg => simp only [if_neg h0]
      by_cases h1 : rd0 = rd1
      case neg => simp only [if_pos h0, if_neg h1]
      by_cases h2 : rn0 = rn1
      case neg => simp only [if_pos h0, if_pos h1, if_neg h2]
      by_cases h3 : rm0 = rm1
      case neg => simp only [if_pos h0, if_pos h1, if_pos h2, if_neg h3]
      by_cases h4 : ra0 = ra1
      case neg => simp only [if_pos h0, if_pos h1, if_pos h2, if_pos h3, if_neg h4]
      by_cases h5 : imm0 = imm1
      case neg => simp only [if_pos h0, if_pos h1, if_pos h2, if_pos h3, if_pos h4, if_neg h5]
      by_cases h6 : cond0 = cond1
      case neg => simp only [if_pos h0, if_pos h1, if_pos h2, if_pos h3, if_pos h4, if_pos h5, if_neg h6]
      by_cases h7 : wide0 = wide1
      case neg => simp only [if_pos h0, if_pos h1, if_pos h2, if_pos h3, if_pos h4, if_pos h5, if_pos h6, if_neg h7]
      exact absurd (by rw [h0, h1, h2, h3, h4, h5, h6, h7]) he
    rcases zi with ⟨zi, _⟩ | ⟨zi, _⟩ <;> rcases zk with ⟨zk, _⟩ | ⟨zk, _⟩
    · exact diff22 _ _ _ _ _ _ _ _ _ _ _ _ _ _ _ _ w _ _ _ _ (Th.encS2 _ ci zi) (Th.encS2 _ ck zk) ci ck zi (Th.ne22 _ _ ci ck zi zk he) hE
    · exact diff24 _ _ _ _ _ _ _ _ _ _ _ _ _ _ _ _ w _ _ _ _ _ _ (Th.encS2 _ ci zi) (Th.encS4 _ ck zk) ci ck zi (Th.ne24 _ _ ci ck zi zk) hE
    · exact diff42 _ _ _ _ _ _ _ _ _ _ _ _ _ _ _ _ w _ _ _ _ _ _ (Th.encS4 _ ci zi) (Th.encS2 _ ck zk) ci ck zi (Th.ne42 _ _ ci ck zi zk) hE
    · exact diff44 _ _ _ _ _ _ _ _ _ _ _ _ _ _ _ _ w _ _ _ _ _ _ _ _ (Th.encS4 _ ci zi) (Th.encS4 _ ck zk) ci ck zi (Th.ne44 _ _ ci ck zi zk he) hE

set_option maxRecDepth 100000 in
theorem lifted (os : Os) (started : os.Started) (H : Type) (enc : TypeId × Value → H) :
    ReturnsInHanded {} Try.checked os 5 .any (Rows.thumbOneSpec.pre6 enc Try.prog Try.f5 Rows.thumbOneRow.domain false) (Rows.thumbOneSpec.post enc Try.prog Try.f5 false true false false) := by
  refine returnsInHanded_of_change (C := Try.checked) own started (by kernel_rfl) Try.func5
    (ChangeSpec.witness6 (enc := enc) (C := Try.checked) false ⟨#[], #[.agg #[.int .i64 0, .int .i64 0, .int .i64 0, .int .i64 0, .int .i64 0, .int .i64 0, .int .i64 0, .bool false], .agg #[.int .i64 0, .int .i64 0, .int .i64 0, .int .i64 0, .int .i64 0, .int .i64 0, .int .i64 0, .bool false]], []⟩ 8 (by kernel_rfl) (by kernel_rfl) (by kernel_rfl) (by kernel_rfl)) ?_
  intro W base args ds gs before hval0 hW hcnd _
  have hval : ∀ (j : Nat) t v, Try.f5.params[j]? = some t → args[j]? = some v → Value.okWide Try.prog W .any base t v := hval0
  have hW' := hW
  obtain ⟨p, q, hA0, hV, rfl, hfz, hnd⟩ := hW
  have hA : DataW.TrodAll enc Try.prog W 0 (fun _ => true) true Try.f5.params.toList args.toList ds p := hA0
  rw [Try.params5] at hA hval
  obtain ⟨v0, vs0, d0, ds0, p0, q0, hargs, rfl, rfl, h0, r0⟩ := trodAll_cons hA
  obtain ⟨v1, vs1, d1, ds1, p1, q1, rfl, rfl, rfl, h1, r1⟩ := trodAll_cons r0
  obtain ⟨rfl, rfl, rfl⟩ := trodAll_nil r1
  obtain rfl : args = #[v0, v1] := by cases args; simp_all
  obtain ⟨rfl, rfl⟩ := trodVars_none hV
  have k0 := h0
  have lt0 : ∀ x ∈ p0, x.block < W.heap.size := by obtain ⟨m, hm⟩ := k0; exact DataW.trod_lt m _ _ _ hm
  obtain ⟨op0, rd0, rn0, rm0, ra0, imm0, cond0, wide0, rfl⟩ := open_ins (hval 0 23 v0 rfl rfl) h0
  have k1 := h1
  have lt1 : ∀ x ∈ p1, x.block < W.heap.size := by obtain ⟨m, hm⟩ := k1; exact DataW.trod_lt m _ _ _ hm
  obtain ⟨op1, rd1, rn1, rm1, ra1, imm1, cond1, wide1, rfl⟩ := open_ins (hval 1 23 v1 rfl rfl) h1
  clear hA0 hval0
  refine (walk op0 rd0 rn0 rm0 ra0 imm0 cond0 wide0 op1 rd1 rn1 rm1 ra1 imm1 cond1 wide1 W).mono fun e W' ⟨he, bel⟩ => ?_
  subst he
  exact ⟨_, rfl, _, _, _, [], _, [], hW', trodAll_mk1 (shut_bool Try.underlying4 _), (trodAll_cons_mk (Below.trod laidOut (by kernel_rfl) (of_decide_eq_true (by kernel_rfl)) k0 bel lt0) (trodAll_cons_mk (Below.trod laidOut (by kernel_rfl) (of_decide_eq_true (by kernel_rfl)) k1 bel lt1) trodAll_mk0)), rfl, bel.frame _, fun h => by cases h⟩

theorem over : Rows.thumbOneRow.holds Try.pinned (OpenSpec.ofChange Rows.thumbOneSpec) :=
  OpenClaim.holds_of_wide 5 Try.f5 rfl rfl rfl rfl rfl rfl rfl ⟨rfl, rfl, rfl, rfl, rfl⟩ rfl rfl rfl rfl rfl (by kernel_rfl) Try.func5 (by kernel_rfl)
    (of_decide_eq_true (by kernel_rfl)) (by unfold Func.isWrapper; first | (rw [if_pos (by decide +kernel)]; kernel_rfl) | (rw [if_neg (by decide +kernel)]; exact ⟨rfl, rfl⟩))
    (fun os started H enc _ => lifted os started H enc)

/-- the statement -/
theorem proved : Rows.ThumbOneSaid := over
#print axioms proved
end Go.Proofs.Ytiblncogogfgbaa.thumbOne
