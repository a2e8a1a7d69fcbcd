/-
  Law CpuSteps: Behind any instruction, in any state, with whatever is loaded, the state is as the document says.
  Conditions: none but those of the given row.
-/
import Derived.Test.YtennhpfhgbmnfaaRows
import Derived.Test.YtennhpfhgbmnfaaCpuP
import Derived.WalkKit
import Derived.ProofKit
import Derived.OpenShut
import Derived.ShutString
import Derived.ChangeOld
import Derived.Below
import Derived.LoopN
import Derived.SizedLaws
namespace Go.Proofs.Ytennhpfhgbmnfaa.cpuSteps
open Go.ChangeShapes Go.WideShapes Go.ChangeAt Go.RowKit
open Go.ChangeMaps (open_string shut_string)
set_option linter.unusedVariables false

theorem own : ownKnob Try.prog.godebug = none := by kernel_rfl
theorem laidOut : laidOutB Try.prog = true := by kernel_rfl

theorem walk (s0 : Cs.St) (op1 rd1 rn1 rm1 ra1 imm1 cond1 : Int) (wide1 : Bool) (a2 : Int) (w2 : (Lit.int .i64 a2).wf = true) (w : World) :
    Calls Try.prog 3 #[.agg (Cs.cells s0), .agg #[.int .i64 op1, .int .i64 rd1, .int .i64 rn1, .int .i64 rm1, .int .i64 ra1, .int .i64 imm1, .int .i64 cond1, .bool wide1], .int .i64 a2] w fun e w' => e = .returned (.bool true) ∧ Below w.heap.size w w' := by
  have H := Lib.hid (Cpu2.new w s0 op1 rd1 rn1 rm1 ra1 imm1 cond1 wide1)
  have hE := fun w => state_eq (Cs.stepS s0 ⟨op1, rd1, rn1, rm1, ra1, imm1, cond1, wide1⟩ a2) w
  go_enter Try.func3, Try.ntmps3
  go_wp2_with (first | go_skip | ((with_reducible refine wpList_load_st H.out.st ?_ ?_); exact rfl) | ((with_reducible refine wpList_load_st T1.out ?_ ?_); exact rfl) | ((with_reducible refine wpList_load_st T2.out ?_ ?_); exact rfl) | (go_at_call 9; refine (step_any _ _ _ _ _ _ _ _ _ _ _).mono ?_; rintro e w1 ⟨rfl, hb⟩; replace H := Lib.hid (H.out.kept hb); obtain ⟨i0, i1, i2, i3, i4, i5, i6, i7⟩ := H.out.ins; clear hb) | (go_at_call 10; refine (rstep_any _ _ _ _ _ _ _ _ _ _ _).mono ?_; rintro e w1 ⟨rfl, hb⟩; replace H := Lib.hid (H.out.kept hb); obtain ⟨i0, i1, i2, i3, i4, i5, i6, i7⟩ := H.out.ins; replace T1 := Lib.hid (T1.out.below hb); clear hb) | ((with_reducible refine wpList_store_st (state_alloc_zero _) (Cs.stepS s0 ⟨op1, rd1, rn1, rm1, ra1, imm1, cond1, wide1⟩ a2) ?_ ?_); exact rfl; rw [World.setRow_alloc_new]; replace H := Lib.hid (H.out.alloc (.cells (Cs.cells (Cs.stepS s0 ⟨op1, rd1, rn1, rm1, ra1, imm1, cond1, wide1⟩ a2)) 24)); have T2 := Lib.hid (state_alloc w1 (Cs.stepS s0 ⟨op1, rd1, rn1, rm1, ra1, imm1, cond1, wide1⟩ a2)); have T1 := Lib.hid (T1.out.alloc (.cells (Cs.cells (Cs.stepS s0 ⟨op1, rd1, rn1, rm1, ra1, imm1, cond1, wide1⟩ a2)) 24)); generalize World.alloc w1 _ = W2 at *; generalize w1.heap.size = b at *; obtain ⟨i0, i1, i2, i3, i4, i5, i6, i7⟩ := H.out.ins) | ((with_reducible refine wpList_store_st (state_alloc_zero _) (Cs.stepS s0 ⟨op1, rd1, rn1, rm1, ra1, imm1, cond1, wide1⟩ a2) ?_ ?_); exact rfl; rw [World.setRow_alloc_new]; replace H := Lib.hid (H.out.alloc (.cells (Cs.cells (Cs.stepS s0 ⟨op1, rd1, rn1, rm1, ra1, imm1, cond1, wide1⟩ a2)) 24)); have T1 := Lib.hid (state_alloc w1 (Cs.stepS s0 ⟨op1, rd1, rn1, rm1, ra1, imm1, cond1, wide1⟩ a2)); generalize World.alloc w1 _ = W2 at *; generalize w1.heap.size = b at *; obtain ⟨i0, i1, i2, i3, i4, i5, i6, i7⟩ := H.out.ins) | (go_at_call 11; refine (lives_any _).mono ?_; rintro e w5 ⟨rfl, hb⟩; have HZ := Lib.hid (H.out.kept hb); clear hb))
  go_ret
  exact ⟨rfl, HZ.out.bel⟩

set_option maxRecDepth 100000 in
theorem lifted (os : Os) (started : os.Started) (H : Type) (enc : TypeId × Value → H) :
    ReturnsInHanded {} Try.checked os 3 .any (Rows.cpuStepsSpec.pre6 enc Try.prog Try.f3 Rows.cpuStepsRow.domain false) (Rows.cpuStepsSpec.post enc Try.prog Try.f3 false true false false) := by
  refine returnsInHanded_of_change (C := Try.checked) own started (by kernel_rfl) Try.func3
    (ChangeSpec.witness6 (enc := enc) (C := Try.checked) false ⟨#[], #[.agg #[.int .i64 0, .int .i64 0, .int .i64 0, .int .i64 0, .int .i64 0, .int .i64 0, .int .i64 0, .int .i64 0, .int .i64 0, .int .i64 0, .int .i64 0, .int .i64 0, .int .i64 0, .int .i64 0, .int .i64 0, .int .i64 0, .bool false, .bool false, .bool false, .bool false], .agg #[.int .i64 0, .int .i64 0, .int .i64 0, .int .i64 0, .int .i64 0, .int .i64 0, .int .i64 0, .bool false], .int .i64 0], []⟩ 8 (by kernel_rfl) (by kernel_rfl) (by kernel_rfl) (by kernel_rfl)) ?_
  intro W base args ds gs before hval0 hW hcnd _
  have hval : ∀ (j : Nat) t v, Try.f3.params[j]? = some t → args[j]? = some v → Value.okWide Try.prog W .any base t v := hval0
  have hW' := hW
  obtain ⟨p, q, hA0, hV, rfl, hfz, hnd⟩ := hW
  have hA : DataW.TrodAll enc Try.prog W 0 (fun _ => true) true Try.f3.params.toList args.toList ds p := hA0
  rw [Try.params3] at hA hval
  obtain ⟨v0, vs0, d0, ds0, p0, q0, hargs, rfl, rfl, h0, r0⟩ := trodAll_cons hA
  obtain ⟨v1, vs1, d1, ds1, p1, q1, rfl, rfl, rfl, h1, r1⟩ := trodAll_cons r0
  obtain ⟨v2, vs2, d2, ds2, p2, q2, rfl, rfl, rfl, h2, r2⟩ := trodAll_cons r1
  obtain ⟨rfl, rfl, rfl⟩ := trodAll_nil r2
  obtain rfl : args = #[v0, v1, v2] := by cases args; simp_all
  obtain ⟨rfl, rfl⟩ := trodVars_none hV
  have k0 := h0
  have lt0 : ∀ x ∈ p0, x.block < W.heap.size := by obtain ⟨m, hm⟩ := k0; exact DataW.trod_lt m _ _ _ hm
  obtain ⟨s0, rfl⟩ := open_state (hval 0 24 v0 rfl rfl) h0
  have k1 := h1
  have lt1 : ∀ x ∈ p1, x.block < W.heap.size := by obtain ⟨m, hm⟩ := k1; exact DataW.trod_lt m _ _ _ hm
  obtain ⟨op1, rd1, rn1, rm1, ra1, imm1, cond1, wide1, rfl⟩ := open_ins (hval 1 26 v1 rfl rfl) h1
  obtain ⟨a2, rfl, rfl, rfl, w2⟩ := open_int Try.underlying3 (hval 2 3 v2 rfl rfl) h2
  clear hA0 hval0
  refine (walk s0 op1 rd1 rn1 rm1 ra1 imm1 cond1 wide1 a2 w2 W).mono fun e W' ⟨he, bel⟩ => ?_
  subst he
  exact ⟨_, rfl, _, _, _, [], _, [], hW', trodAll_mk1 (shut_bool Try.underlying4 _), (trodAll_cons_mk (Below.trod laidOut (by kernel_rfl) (of_decide_eq_true (by kernel_rfl)) k0 bel lt0) (trodAll_cons_mk (Below.trod laidOut (by kernel_rfl) (of_decide_eq_true (by kernel_rfl)) k1 bel lt1) (trodAll_cons_mk (shut_int Try.underlying3 w2) trodAll_mk0))), rfl, bel.frame _, fun h => by cases h⟩

theorem over : Rows.cpuStepsRow.holds Try.pinned (OpenSpec.ofChange Rows.cpuStepsSpec) :=
  OpenClaim.holds_of_wide 3 Try.f3 rfl rfl rfl rfl rfl rfl rfl ⟨rfl, rfl, rfl, rfl, rfl⟩ rfl rfl rfl rfl rfl (by kernel_rfl) Try.func3 (by kernel_rfl)
    (of_decide_eq_true (by kernel_rfl)) (by unfold Func.isWrapper; first | (rw [if_pos (by decide +kernel)]; kernel_rfl) | (rw [if_neg (by decide +kernel)]; exact ⟨rfl, rfl⟩))
    (fun os started H enc _ => lifted os started H enc)

/-- the statement -/
theorem proved : Rows.CpuStepsSaid := over
#print axioms proved
end Go.Proofs.Ytennhpfhgbmnfaa.cpuSteps
