/-
  Law ThumbChecks: at every input the call returns true and each argument reads as it did before.
  Conditions: none but those of the given row.
-/
import Derived.Test.YtiblncogogfgbaaRows
import Derived.Test.YtiblncogogfgbaaThumbT
import Derived.Test.YtiblncogogfgbaaThumbO
import Derived.WalkKit
import Derived.ProofKit
import Derived.OpenShut
import Derived.ShutString
import Derived.ChangeOld
import Derived.Below
import Derived.LoopN
namespace Go.Proofs.Ytiblncogogfgbaa.thumbChecks
open Go.ChangeShapes Go.WideShapes Go.ChangeAt Go.RowKit
open Go.ChangeMaps (open_string shut_string)
set_option linter.unusedVariables false

theorem own : ownKnob Try.prog.godebug = none := by kernel_rfl
theorem laidOut : laidOutB Try.prog = true := by kernel_rfl

theorem bel_any {w w1 w2 : World} (hb : Below w1.heap.size w1 w2) (h : Below w.heap.size w w1) : Below w.heap.size w w2 := h.trans (hb.mono h.size)
set_option maxHeartbeats 4000000 in
theorem walk (op0 rd0 rn0 rm0 ra0 imm0 cond0 : Int) (wide0 : Bool) (w : World) :
    Calls Try.prog 3 #[.agg #[.int .i64 op0, .int .i64 rd0, .int .i64 rn0, .int .i64 rm0, .int .i64 ra0, .int .i64 imm0, .int .i64 cond0, .bool wide0]] w fun e w' => e = .returned (.bool true) ∧ Below w.heap.size w w' := by
  go_enter Try.func3, Try.ntmps3
  go_wp2_with (first | (go_at_call 7; refine (reach_any _ _ _).mono ?_; rintro e w' ⟨rfl, rfl⟩) | (go_at_call 8; refine (rreach_any _ _ _).mono ?_; rintro e w' ⟨rfl, rfl⟩))
  have HC := ins_alloc w 23 op0 rd0 rn0 rm0 ra0 imm0 cond0 wide0
  have HB : Hid (Below w.heap.size w (w.alloc (.cells #[.int .i64 op0, .int .i64 rd0, .int .i64 rn0, .int .i64 rm0, .int .i64 ra0, .int .i64 imm0, .int .i64 cond0, .bool wide0] 23))) := bel_alloc (Below.refl _ _) _
  have hs1 : w.heap.size < (w.alloc (.cells #[.int .i64 op0, .int .i64 rd0, .int .i64 rn0, .int .i64 rm0, .int .i64 ra0, .int .i64 imm0, .int .i64 cond0, .bool wide0] 23)).heap.size := by simp
  generalize w.alloc (.cells #[.int .i64 op0, .int .i64 rd0, .int .i64 rn0, .int .i64 rm0, .int .i64 ra0, .int .i64 imm0, .int .i64 cond0, .bool wide0] 23) = W at *
  generalize Value.agg #[.int .i64 op0, _, _, _, _, _, _, _] = u0
  go_region_held3 (fun wx => Below W.heap.size W wx ∧ InsAt wx w.heap.size op0 rd0 rn0 rm0 ra0 imm0 cond0 wide0)
    (first | exact ⟨(Below.refl _ _).drew, HC⟩ | exact sy_step (by assumption) (by assumption) hs1)
    (first | (go_at_call 9; refine (check_any _ _ _ _ _ _ _ _ _).mono ?_; rintro e w1 ⟨rfl, hb1⟩) | (go_at_call 10; refine (rcheck_any _ _ _ _ _ _ _ _ _).mono ?_; rintro e w2 ⟨rfl, hb2⟩) | (go_at_call 11; refine (size_any _ _ _ _ _ _ _ _ _).mono ?_; rintro e w3 ⟨rfl, hb3⟩) | (go_at_call 12; refine (rsize_any _ _ _ _ _ _ _ _ _).mono ?_; rintro e w4 ⟨rfl, hb4⟩) | (go_at_call 13; refine (lives_any _).mono ?_; rintro e w5 ⟨rfl, hb5⟩))
  rename_i hH
  go_wp2
  go_ret
  exact ⟨rfl, HB.out.trans (hH.1.mono (by omega))⟩

set_option maxRecDepth 100000 in
theorem lifted (os : Os) (started : os.Started) (H : Type) (enc : TypeId × Value → H) :
    ReturnsInHanded {} Try.checked os 3 .any (Rows.thumbChecksSpec.pre6 enc Try.prog Try.f3 Rows.thumbChecksRow.domain false) (Rows.thumbChecksSpec.post enc Try.prog Try.f3 false true false false) := by
  refine returnsInHanded_of_change (C := Try.checked) own started (by kernel_rfl) Try.func3
    (ChangeSpec.witness6 (enc := enc) (C := Try.checked) false ⟨#[], #[.agg #[.int .i64 0, .int .i64 0, .int .i64 0, .int .i64 0, .int .i64 0, .int .i64 0, .int .i64 0, .bool false]], []⟩ 8 (by kernel_rfl) (by kernel_rfl) (by kernel_rfl) (by kernel_rfl)) ?_
  intro W base args ds gs before hval0 hW hcnd _
  have hval : ∀ (j : Nat) t v, Try.f3.params[j]? = some t → args[j]? = some v → Value.okWide Try.prog W .any base t v := hval0
  have hW' := hW
  obtain ⟨p, q, hA0, hV, rfl, hfz, hnd⟩ := hW
  have hA : DataW.TrodAll enc Try.prog W 0 (fun _ => true) true Try.f3.params.toList args.toList ds p := hA0
  rw [Try.params3] at hA hval
  obtain ⟨v0, vs0, d0, ds0, p0, q0, hargs, rfl, rfl, h0, r0⟩ := trodAll_cons hA
  obtain ⟨rfl, rfl, rfl⟩ := trodAll_nil r0
  obtain rfl : args = #[v0] := by cases args; simp_all
  obtain ⟨rfl, rfl⟩ := trodVars_none hV
  have k0 := h0
  have lt0 : ∀ x ∈ p0, x.block < W.heap.size := by obtain ⟨m, hm⟩ := k0; exact DataW.trod_lt m _ _ _ hm
  obtain ⟨op0, rd0, rn0, rm0, ra0, imm0, cond0, wide0, rfl⟩ := open_ins (hval 0 23 v0 rfl rfl) h0
  clear hA0 hval0
  refine (walk op0 rd0 rn0 rm0 ra0 imm0 cond0 wide0 W).mono fun e W' ⟨he, bel⟩ => ?_
  subst he
  exact ⟨_, rfl, _, _, _, [], _, [], hW', trodAll_mk1 (shut_bool Try.underlying4 _), (trodAll_cons_mk (Below.trod laidOut (by kernel_rfl) (of_decide_eq_true (by kernel_rfl)) k0 bel lt0) trodAll_mk0), rfl, bel.frame _, fun h => by cases h⟩

theorem over : Rows.thumbChecksRow.holds Try.pinned (OpenSpec.ofChange Rows.thumbChecksSpec) :=
  OpenClaim.holds_of_wide 3 Try.f3 rfl rfl rfl rfl rfl rfl rfl ⟨rfl, rfl, rfl, rfl, rfl⟩ rfl rfl rfl rfl rfl (by kernel_rfl) Try.func3 (by kernel_rfl)
    (of_decide_eq_true (by kernel_rfl)) (by unfold Func.isWrapper; first | (rw [if_pos (by decide +kernel)]; kernel_rfl) | (rw [if_neg (by decide +kernel)]; exact ⟨rfl, rfl⟩))
    (fun os started H enc _ => lifted os started H enc)

/-- the statement -/
theorem proved : Rows.ThumbChecksSaid := over
#print axioms proved
end Go.Proofs.Ytiblncogogfgbaa.thumbChecks
