/-
  What the document's own Check of thumb returns, part 0.
-/
import Derived.Test.YtcajllbhgfaofaaThumbR
namespace Go.Proofs.Ytcajllbhgfaofaa
open Go.ChangeShapes Go.WideShapes Go.ChangeAt Go.RowKit
set_option linter.unusedVariables false

set_option maxHeartbeats 1000000 in
theorem rreach_any (op : Int) (wide : Bool) (w : World) :
    Calls Try.prog 13 #[.int .i64 op, .bool wide] w fun e w' => e = .returned (.tuple #[.int .i64 (Th.reachLo op wide), .int .i64 (Th.reachHi op wide)]) ∧ w = w' := by
  cases wide
  all_goals
    go_enter Try.func13, Try.ntmps13
    go_wp2
    all_goals (go_ret2; exact ⟨ret_two (by simp [Th.reachLo, *]) (by simp [Th.reachHi, *]), rfl⟩)
end Go.Proofs.Ytcajllbhgfaofaa
