/-
  What package decode's there returns.
-/
import Derived.Test.YtcajllbhgfaofaaDecodeC
import Derived.Test.YtcajllbhgfaofaaThumbC
namespace Go.Proofs.Ytcajllbhgfaofaa
open Go.ChangeShapes Go.WideShapes Go.ChangeAt Go.RowKit
set_option linter.unusedVariables false

set_option maxHeartbeats 4000000 in
theorem there_any (op rd rn rm ra imm cond : Int) (wide : Bool) (w : World) :
    Calls Try.prog 45 #[.agg #[.int .i64 op, .int .i64 rd, .int .i64 rn, .int .i64 rm, .int .i64 ra, .int .i64 imm, .int .i64 cond, .bool wide]] w fun e w' => e = .returned (.bool (De.there ⟨op, rd, rn, rm, ra, imm, cond, wide⟩)) ∧ Below w.heap.size w w' := by
  go_enter Try.func45, Try.ntmps45
  go_wp2
  all_goals
    go_ret
    refine ⟨ret_bool ?_, by go_grown⟩
    simp_all [De.there] <;> omega
end Go.Proofs.Ytcajllbhgfaofaa
