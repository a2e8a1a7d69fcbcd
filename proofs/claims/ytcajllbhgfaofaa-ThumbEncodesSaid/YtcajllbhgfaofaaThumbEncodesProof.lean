/-
  Law ThumbEncodes: Any instruction has the bytes that the document says, or there is its error: the document's sentence P2.2, told of every instruction.
  Conditions: none but those of the given row.
-/
import Derived.Test.YtcajllbhgfaofaaRows
import Derived.Test.YtcajllbhgfaofaaThumbX
import Derived.Test.YtcajllbhgfaofaaThumbO
import Derived.WalkKit
import Derived.ProofKit
import Derived.OpenShut
import Derived.ShutString
import Derived.ChangeOld
import Derived.Below
import Derived.LoopN
import Derived.SizedLaws
namespace Go.Proofs.Ytcajllbhgfaofaa.thumbEncodes
open Go.ChangeShapes Go.WideShapes Go.ChangeAt Go.RowKit
open Go.ChangeMaps (open_string shut_string)
set_option linter.unusedVariables false

theorem own : ownKnob Try.prog.godebug = none := by kernel_rfl
theorem laidOut : laidOutB Try.prog = true := by kernel_rfl

set_option maxHeartbeats 4000000 in
theorem walk (op0 rd0 rn0 rm0 ra0 imm0 cond0 : Int) (wide0 : Bool) (w : World) :
    Calls Try.prog 4 #[.agg #[.int .i64 op0, .int .i64 rd0, .int .i64 rn0, .int .i64 rm0, .int .i64 ra0, .int .i64 imm0, .int .i64 cond0, .bool wide0]] w fun e w' => e = .returned (.bool true) ∧ Below w.heap.size w w' := by
  generalize hE : Th.encS ⟨op0, rd0, rn0, rm0, ra0, imm0, cond0, wide0⟩ = B
  generalize hC : Th.check ⟨op0, rd0, rn0, rm0, ra0, imm0, cond0, wide0⟩ = c
  have HA := encode_any op0 rd0 rn0 rm0 ra0 imm0 cond0 wide0
  have HR := rencode_any op0 rd0 rn0 rm0 ra0 imm0 cond0 wide0
  rw [hE, hC] at HA HR
  have HA' := Lib.hid HA
  have HR' := Lib.hid HR
  clear HA HR hE hC
  go_enter Try.func4, Try.ntmps4
  go_wp2_with fail
  go_at_call 19
  refine (HA'.out _).mono ?_
  rintro e w1 ⟨rfl, hb1⟩
  have hz1 := hb1.size
  simp at hz1
  have HB1 := Lib.hid (((Below.refl _ _).alloc (Nat.le_refl w.heap.size) _).trans (hb1.mono (by simp)))
  have HI1 := (ins_alloc w 23 op0 rd0 rn0 rm0 ra0 imm0 cond0 wide0).below hb1 (by simp)
  clear hb1
  go_wp2_with fail
  go_at_call 20
  refine (HR'.out _).mono ?_
  rintro e w2 ⟨rfl, hb2⟩
  have hz2 := hb2.size
  have HB2 := Lib.hid (HB1.out.trans (hb2.mono (by omega)))
  clear hb2 HB1 HI1
  go_wp2_with (go_at_call 18; refine (lives_any _).mono ?_; rintro e w4 ⟨rfl, hb4⟩)
  go_ret
  exact ⟨rfl, HB2.out.trans (hb4.mono (by omega))⟩

set_option maxRecDepth 100000 in
theorem lifted (os : Os) (started : os.Started) (H : Type) (enc : TypeId × Value → H) :
    ReturnsInHanded {} Try.checked os 4 .any (Rows.thumbEncodesSpec.pre6 enc Try.prog Try.f4 Rows.thumbEncodesRow.domain false) (Rows.thumbEncodesSpec.post enc Try.prog Try.f4 false true false false) := by
  refine returnsInHanded_of_change (C := Try.checked) own started (by kernel_rfl) Try.func4
    (ChangeSpec.witness6 (enc := enc) (C := Try.checked) false ⟨#[], #[.agg #[.int .i64 0, .int .i64 0, .int .i64 0, .int .i64 0, .int .i64 0, .int .i64 0, .int .i64 0, .bool false]], []⟩ 8 (by kernel_rfl) (by kernel_rfl) (by kernel_rfl) (by kernel_rfl)) ?_
  intro W base args ds gs before hval0 hW hcnd _
  have hval : ∀ (j : Nat) t v, Try.f4.params[j]? = some t → args[j]? = some v → Value.okWide Try.prog W .any base t v := hval0
  have hW' := hW
  obtain ⟨p, q, hA0, hV, rfl, hfz, hnd⟩ := hW
  have hA : DataW.TrodAll enc Try.prog W 0 (fun _ => true) true Try.f4.params.toList args.toList ds p := hA0
  rw [Try.params4] at hA hval
  obtain ⟨v0, vs0, d0, ds0, p0, q0, hargs, rfl, rfl, h0, r0⟩ := trodAll_cons hA
  obtain ⟨rfl, rfl, rfl⟩ := trodAll_nil r0
  obtain rfl : args = #[v0] := by cases args; simp_all
  obtain ⟨rfl, rfl⟩ := trodVars_none hV
  have k0 := h0
  have lt0 : ∀ x ∈ p0, x.block < W.heap.size := by obtain ⟨m, hm⟩ := k0; exact DataW.trod_lt m _ _ _ hm
  obtain ⟨op0, rd0, rn0, rm0, ra0, imm0, cond0, wide0, rfl⟩ := open_ins (hval 0 23 v0 rfl rfl) h0
  clear hA0 hval0
  refine (walk op0 rd0 rn0 rm0 ra0 imm0 cond0 wide0 W).mono fun e W' ⟨he, bel⟩ => ?_
  subst he
  exact ⟨_, rfl, _, _, _, [], _, [], hW', trodAll_mk1 (shut_bool Try.underlying4 _), (trodAll_cons_mk (Below.trod laidOut (by kernel_rfl) (of_decide_eq_true (by kernel_rfl)) k0 bel lt0) trodAll_mk0), rfl, bel.frame _, fun h => by cases h⟩

theorem over : Rows.thumbEncodesRow.holds Try.pinned (OpenSpec.ofChange Rows.thumbEncodesSpec) :=
  OpenClaim.holds_of_wide 4 Try.f4 rfl rfl rfl rfl rfl rfl rfl ⟨rfl, rfl, rfl, rfl, rfl⟩ rfl rfl rfl rfl rfl (by kernel_rfl) Try.func4 (by kernel_rfl)
    (of_decide_eq_true (by kernel_rfl)) (by unfold Func.isWrapper; first | (rw [if_pos (by decide +kernel)]; kernel_rfl) | (rw [if_neg (by decide +kernel)]; exact ⟨rfl, rfl⟩))
    (fun os started H enc _ => lifted os started H enc)

/-- the statement -/
theorem proved : Rows.ThumbEncodesSaid := over
#print axioms proved
end Go.Proofs.Ytcajllbhgfaofaa.thumbEncodes
