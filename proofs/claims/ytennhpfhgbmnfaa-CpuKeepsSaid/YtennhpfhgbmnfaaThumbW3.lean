/-
  What package thumb's within returns, part 3.
-/
import Derived.Test.YtennhpfhgbmnfaaThumbC
namespace Go.Proofs.Ytennhpfhgbmnfaa
open Go.ChangeShapes Go.WideShapes Go.ChangeAt Go.RowKit

set_option maxHeartbeats 4000000 in
set_option maxRecDepth 100000 in
theorem within_no8 (lop lrd lrn lrm lra limm lcond : Int) (lwide : Bool) (op rd rn rm ra imm cond : Int) (wide : Bool) (hop hrd hrn hrm hra himm hcond : Int) (hwide : Bool) (w : World) (g0 : lrd ≤ rd) (g1 : rd ≤ hrd) (g2 : lrn ≤ rn) (g3 : rn ≤ hrn) (g4 : lrm ≤ rm) (g5 : rm ≤ hrm) (g6 : lra ≤ ra) (g7 : ra ≤ hra) (n8 : decide (limm ≤ imm) = false) :
    Calls Try.prog 39 #[.agg #[.int .i64 lop, .int .i64 lrd, .int .i64 lrn, .int .i64 lrm, .int .i64 lra, .int .i64 limm, .int .i64 lcond, .bool lwide], .agg #[.int .i64 op, .int .i64 rd, .int .i64 rn, .int .i64 rm, .int .i64 ra, .int .i64 imm, .int .i64 cond, .bool wide], .agg #[.int .i64 hop, .int .i64 hrd, .int .i64 hrn, .int .i64 hrm, .int .i64 hra, .int .i64 himm, .int .i64 hcond, .bool hwide]] w fun e w' => e = .returned (.bool false) ∧ Below w.heap.size w w' := by
  go_enter Try.func39, Try.ntmps39
  go_wp2_with (first | go_skip | ((with_reducible refine wpList_take ?_ ?_); exact rfl; intro _ _))
  all_goals (go_ret; exact ⟨rfl, by go_grown⟩)

set_option maxHeartbeats 4000000 in
set_option maxRecDepth 100000 in
theorem within_no9 (lop lrd lrn lrm lra limm lcond : Int) (lwide : Bool) (op rd rn rm ra imm cond : Int) (wide : Bool) (hop hrd hrn hrm hra himm hcond : Int) (hwide : Bool) (w : World) (g0 : lrd ≤ rd) (g1 : rd ≤ hrd) (g2 : lrn ≤ rn) (g3 : rn ≤ hrn) (g4 : lrm ≤ rm) (g5 : rm ≤ hrm) (g6 : lra ≤ ra) (g7 : ra ≤ hra) (g8 : limm ≤ imm) (n9 : decide (imm ≤ himm) = false) :
    Calls Try.prog 39 #[.agg #[.int .i64 lop, .int .i64 lrd, .int .i64 lrn, .int .i64 lrm, .int .i64 lra, .int .i64 limm, .int .i64 lcond, .bool lwide], .agg #[.int .i64 op, .int .i64 rd, .int .i64 rn, .int .i64 rm, .int .i64 ra, .int .i64 imm, .int .i64 cond, .bool wide], .agg #[.int .i64 hop, .int .i64 hrd, .int .i64 hrn, .int .i64 hrm, .int .i64 hra, .int .i64 himm, .int .i64 hcond, .bool hwide]] w fun e w' => e = .returned (.bool false) ∧ Below w.heap.size w w' := by
  go_enter Try.func39, Try.ntmps39
  go_wp2_with (first | go_skip | ((with_reducible refine wpList_take ?_ ?_); exact rfl; intro _ _))
  all_goals (go_ret; exact ⟨rfl, by go_grown⟩)

set_option maxHeartbeats 4000000 in
set_option maxRecDepth 100000 in
theorem within_no10 (lop lrd lrn lrm lra limm lcond : Int) (lwide : Bool) (op rd rn rm ra imm cond : Int) (wide : Bool) (hop hrd hrn hrm hra himm hcond : Int) (hwide : Bool) (w : World) (g0 : lrd ≤ rd) (g1 : rd ≤ hrd) (g2 : lrn ≤ rn) (g3 : rn ≤ hrn) (g4 : lrm ≤ rm) (g5 : rm ≤ hrm) (g6 : lra ≤ ra) (g7 : ra ≤ hra) (g8 : limm ≤ imm) (g9 : imm ≤ himm) (n10 : decide (lcond ≤ cond) = false) :
    Calls Try.prog 39 #[.agg #[.int .i64 lop, .int .i64 lrd, .int .i64 lrn, .int .i64 lrm, .int .i64 lra, .int .i64 limm, .int .i64 lcond, .bool lwide], .agg #[.int .i64 op, .int .i64 rd, .int .i64 rn, .int .i64 rm, .int .i64 ra, .int .i64 imm, .int .i64 cond, .bool wide], .agg #[.int .i64 hop, .int .i64 hrd, .int .i64 hrn, .int .i64 hrm, .int .i64 hra, .int .i64 himm, .int .i64 hcond, .bool hwide]] w fun e w' => e = .returned (.bool false) ∧ Below w.heap.size w w' := by
  go_enter Try.func39, Try.ntmps39
  go_wp2_with (first | go_skip | ((with_reducible refine wpList_take ?_ ?_); exact rfl; intro _ _))
  all_goals (go_ret; exact ⟨rfl, by go_grown⟩)

end Go.Proofs.Ytennhpfhgbmnfaa
