/-
  What package thumb's within returns.
-/
import Derived.Test.YtennhpfhgbmnfaaThumbW0
import Derived.Test.YtennhpfhgbmnfaaThumbW1
import Derived.Test.YtennhpfhgbmnfaaThumbW2
import Derived.Test.YtennhpfhgbmnfaaThumbW3
import Derived.Test.YtennhpfhgbmnfaaThumbW4
namespace Go.Proofs.Ytennhpfhgbmnfaa
open Go.ChangeShapes Go.WideShapes Go.ChangeAt Go.RowKit

set_option maxHeartbeats 4000000 in
set_option maxRecDepth 100000 in
theorem within_any (lop lrd lrn lrm lra limm lcond : Int) (lwide : Bool) (op rd rn rm ra imm cond : Int) (wide : Bool) (hop hrd hrn hrm hra himm hcond : Int) (hwide : Bool) (w : World)  :
    Calls Try.prog 39 #[.agg #[.int .i64 lop, .int .i64 lrd, .int .i64 lrn, .int .i64 lrm, .int .i64 lra, .int .i64 limm, .int .i64 lcond, .bool lwide], .agg #[.int .i64 op, .int .i64 rd, .int .i64 rn, .int .i64 rm, .int .i64 ra, .int .i64 imm, .int .i64 cond, .bool wide], .agg #[.int .i64 hop, .int .i64 hrd, .int .i64 hrn, .int .i64 hrm, .int .i64 hra, .int .i64 himm, .int .i64 hcond, .bool hwide]] w fun e w' => e = .returned (.bool (Th.within ⟨lop, lrd, lrn, lrm, lra, limm, lcond, lwide⟩ ⟨op, rd, rn, rm, ra, imm, cond, wide⟩ ⟨hop, hrd, hrn, hrm, hra, himm, hcond, hwide⟩)) ∧ Below w.heap.size w w' := by
  by_cases g0 : lrd ≤ rd
  case neg =>
    have e : Th.within ⟨lop, lrd, lrn, lrm, lra, limm, lcond, lwide⟩ ⟨op, rd, rn, rm, ra, imm, cond, wide⟩ ⟨hop, hrd, hrn, hrm, hra, himm, hcond, hwide⟩ = false := by simp [Th.within, g0]
    rw [e]
    exact within_no0 _ _ _ _ _ _ _ _ _ _ _ _ _ _ _ _ _ _ _ _ _ _ _ _ w  (decide_eq_false g0)
  by_cases g1 : rd ≤ hrd
  case neg =>
    have e : Th.within ⟨lop, lrd, lrn, lrm, lra, limm, lcond, lwide⟩ ⟨op, rd, rn, rm, ra, imm, cond, wide⟩ ⟨hop, hrd, hrn, hrm, hra, himm, hcond, hwide⟩ = false := by simp [Th.within, g1]
    rw [e]
    exact within_no1 _ _ _ _ _ _ _ _ _ _ _ _ _ _ _ _ _ _ _ _ _ _ _ _ w g0 (decide_eq_false g1)
  by_cases g2 : lrn ≤ rn
  case neg =>
    have e : Th.within ⟨lop, lrd, lrn, lrm, lra, limm, lcond, lwide⟩ ⟨op, rd, rn, rm, ra, imm, cond, wide⟩ ⟨hop, hrd, hrn, hrm, hra, himm, hcond, hwide⟩ = false := by simp [Th.within, g2]
    rw [e]
    exact within_no2 _ _ _ _ _ _ _ _ _ _ _ _ _ _ _ _ _ _ _ _ _ _ _ _ w g0 g1 (decide_eq_false g2)
  by_cases g3 : rn ≤ hrn
  case neg =>
    have e : Th.within ⟨lop, lrd, lrn, lrm, lra, limm, lcond, lwide⟩ ⟨op, rd, rn, rm, ra, imm, cond, wide⟩ ⟨hop, hrd, hrn, hrm, hra, himm, hcond, hwide⟩ = false := by simp [Th.within, g3]
    rw [e]
    exact within_no3 _ _ _ _ _ _ _ _ _ _ _ _ _ _ _ _ _ _ _ _ _ _ _ _ w g0 g1 g2 (decide_eq_false g3)
  by_cases g4 : lrm ≤ rm
  case neg =>
    have e : Th.within ⟨lop, lrd, lrn, lrm, lra, limm, lcond, lwide⟩ ⟨op, rd, rn, rm, ra, imm, cond, wide⟩ ⟨hop, hrd, hrn, hrm, hra, himm, hcond, hwide⟩ = false := by simp [Th.within, g4]
    rw [e]
    exact within_no4 _ _ _ _ _ _ _ _ _ _ _ _ _ _ _ _ _ _ _ _ _ _ _ _ w g0 g1 g2 g3 (decide_eq_false g4)
  by_cases g5 : rm ≤ hrm
  case neg =>
    have e : Th.within ⟨lop, lrd, lrn, lrm, lra, limm, lcond, lwide⟩ ⟨op, rd, rn, rm, ra, imm, cond, wide⟩ ⟨hop, hrd, hrn, hrm, hra, himm, hcond, hwide⟩ = false := by simp [Th.within, g5]
    rw [e]
    exact within_no5 _ _ _ _ _ _ _ _ _ _ _ _ _ _ _ _ _ _ _ _ _ _ _ _ w g0 g1 g2 g3 g4 (decide_eq_false g5)
  by_cases g6 : lra ≤ ra
  case neg =>
    have e : Th.within ⟨lop, lrd, lrn, lrm, lra, limm, lcond, lwide⟩ ⟨op, rd, rn, rm, ra, imm, cond, wide⟩ ⟨hop, hrd, hrn, hrm, hra, himm, hcond, hwide⟩ = false := by simp [Th.within, g6]
    rw [e]
    exact within_no6 _ _ _ _ _ _ _ _ _ _ _ _ _ _ _ _ _ _ _ _ _ _ _ _ w g0 g1 g2 g3 g4 g5 (decide_eq_false g6)
  by_cases g7 : ra ≤ hra
  case neg =>
    have e : Th.within ⟨lop, lrd, lrn, lrm, lra, limm, lcond, lwide⟩ ⟨op, rd, rn, rm, ra, imm, cond, wide⟩ ⟨hop, hrd, hrn, hrm, hra, himm, hcond, hwide⟩ = false := by simp [Th.within, g7]
    rw [e]
    exact within_no7 _ _ _ _ _ _ _ _ _ _ _ _ _ _ _ _ _ _ _ _ _ _ _ _ w g0 g1 g2 g3 g4 g5 g6 (decide_eq_false g7)
  by_cases g8 : limm ≤ imm
  case neg =>
    have e : Th.within ⟨lop, lrd, lrn, lrm, lra, limm, lcond, lwide⟩ ⟨op, rd, rn, rm, ra, imm, cond, wide⟩ ⟨hop, hrd, hrn, hrm, hra, himm, hcond, hwide⟩ = false := by simp [Th.within, g8]
    rw [e]
    exact within_no8 _ _ _ _ _ _ _ _ _ _ _ _ _ _ _ _ _ _ _ _ _ _ _ _ w g0 g1 g2 g3 g4 g5 g6 g7 (decide_eq_false g8)
  by_cases g9 : imm ≤ himm
  case neg =>
    have e : Th.within ⟨lop, lrd, lrn, lrm, lra, limm, lcond, lwide⟩ ⟨op, rd, rn, rm, ra, imm, cond, wide⟩ ⟨hop, hrd, hrn, hrm, hra, himm, hcond, hwide⟩ = false := by simp [Th.within, g9]
    rw [e]
    exact within_no9 _ _ _ _ _ _ _ _ _ _ _ _ _ _ _ _ _ _ _ _ _ _ _ _ w g0 g1 g2 g3 g4 g5 g6 g7 g8 (decide_eq_false g9)
  by_cases g10 : lcond ≤ cond
  case neg =>
    have e : Th.within ⟨lop, lrd, lrn, lrm, lra, limm, lcond, lwide⟩ ⟨op, rd, rn, rm, ra, imm, cond, wide⟩ ⟨hop, hrd, hrn, hrm, hra, himm, hcond, hwide⟩ = false := by simp [Th.within, g10]
    rw [e]
    exact within_no10 _ _ _ _ _ _ _ _ _ _ _ _ _ _ _ _ _ _ _ _ _ _ _ _ w g0 g1 g2 g3 g4 g5 g6 g7 g8 g9 (decide_eq_false g10)
  by_cases g11 : cond ≤ hcond
  case neg =>
    have e : Th.within ⟨lop, lrd, lrn, lrm, lra, limm, lcond, lwide⟩ ⟨op, rd, rn, rm, ra, imm, cond, wide⟩ ⟨hop, hrd, hrn, hrm, hra, himm, hcond, hwide⟩ = false := by simp [Th.within, g11]
    rw [e]
    exact within_no11 _ _ _ _ _ _ _ _ _ _ _ _ _ _ _ _ _ _ _ _ _ _ _ _ w g0 g1 g2 g3 g4 g5 g6 g7 g8 g9 g10 (decide_eq_false g11)
  have e : Th.within ⟨lop, lrd, lrn, lrm, lra, limm, lcond, lwide⟩ ⟨op, rd, rn, rm, ra, imm, cond, wide⟩ ⟨hop, hrd, hrn, hrm, hra, himm, hcond, hwide⟩ = (hwide || !wide) := by simp [Th.within, *]
  rw [e]
  exact within_yes _ _ _ _ _ _ _ _ _ _ _ _ _ _ _ _ _ _ _ _ _ _ _ _ w g0 g1 g2 g3 g4 g5 g6 g7 g8 g9 g10 g11
end Go.Proofs.Ytennhpfhgbmnfaa
