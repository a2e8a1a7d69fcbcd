/-
  What each call of package thumb returns: contracts for the walks. At most new memory is made.
-/
import Derived.Test.YtennhpfhgbmnfaaThumbM
import Derived.Test.YtennhpfhgbmnfaaRows
import Derived.WalkKit
import Derived.ProofKit
import Derived.LoopTactic
import Derived.Lib.Hide
import Derived.Handy
import Derived.Below
import Derived.Deep.RegionHeld3
import Derived.Deep.QuietTactic
import Derived.BigQuiet
import Derived.RegionTactic
namespace Go.Proofs.Ytennhpfhgbmnfaa
open Go.ChangeShapes Go.WideShapes Go.ChangeAt Go.RowKit

theorem ret_int {k : IntKind} {a b : Int} (h : a = b) : Ending.returned (.int k a) = .returned (.int k b) := by rw [h]
theorem ret_two {k l : IntKind} {a b c d : Int} (h : a = b) (g : c = d) : Ending.returned (.tuple #[.int k a, .int l c]) = .returned (.tuple #[.int k b, .int l d]) := by rw [h, g]
theorem ret_bool {a b : Bool} (h : a = b) : Ending.returned (.bool a) = .returned (.bool b) := by rw [h]
theorem bcell {W w1 : World} (hb : Below W.heap.size W w1) : (∀ b o, b < W.heap.size → w1.cell? ⟨b, o, none⟩ = W.cell? ⟨b, o, none⟩) ∧ (∀ b o, b < W.heap.size → w1.frozen? ⟨b, o, none⟩ = W.frozen? ⟨b, o, none⟩) :=
  ⟨fun b o h => hb.cell (p := ⟨b, o, none⟩) h, fun b o h => hb.frozen (p := ⟨b, o, none⟩) h⟩
/-- an operation whose guard is met, in a long region: without reckoning the region anew -/
theorem wpList_take {P : Program} {ops : Array Oper} {Q : Exit → Act → World → Prop} {a : Act} {w : World} {rest : List Oper} {o : Oper}
    (hw : Region.wanted o (yielded ops a.tmps) = true) (h : ∀ K : Act → World → Prop, (∀ a w, wpList P ops Q rest a w → K a w) → o.wp P a w K Q) : wpList P ops Q (o :: rest) a w :=
  wpList_step fun K hK => by simp only [hw, if_true]; exact h K hK


theorem reach_any (op : Int) (wide : Bool) (w : World) :
    Calls Try.prog 69 #[.int .i64 op, .bool wide] w fun e w' => e = .returned (.tuple #[.int .i64 (Th.reachLo op wide), .int .i64 (Th.reachHi op wide)]) ∧ w = w' := by
  go_enter Try.func69, Try.ntmps69
  go_wp2
  all_goals (go_ret2; exact ⟨ret_two (by simp [Th.reachLo, *]) (by simp [Th.reachHi, *]), rfl⟩)

theorem branches_any (op : Int) (w : World) :
    Calls Try.prog 41 #[.int .i64 op] w fun e w' => e = .returned (.bool (Th.branch op)) ∧ w = w' := by
  go_enter Try.func41, Try.ntmps41
  go_wp2
  all_goals (go_ret; exact ⟨ret_bool (by simp [Th.branch, *]), rfl⟩)

set_option maxHeartbeats 1000000 in
theorem least_any (op rd rn rm ra imm cond : Int) (wide : Bool) (w : World) :
    Calls Try.prog 40 #[.agg #[.int .i64 op, .int .i64 rd, .int .i64 rn, .int .i64 rm, .int .i64 ra, .int .i64 imm, .int .i64 cond, .bool wide]] w fun e w' =>
      e = .returned (.agg #[.int .i64 (Th.least op imm).op, .int .i64 (Th.least op imm).rd, .int .i64 (Th.least op imm).rn, .int .i64 (Th.least op imm).rm, .int .i64 (Th.least op imm).ra, .int .i64 (Th.least op imm).imm, .int .i64 (Th.least op imm).cond, .bool (Th.least op imm).wide]) ∧ Below w.heap.size w w' := by
  go_enter Try.func40, Try.ntmps40
  go_wp2
  all_goals
    go_returns
    refine ⟨?_, by go_grown⟩
    simp [Th.least, Th.none0, *]

set_option maxHeartbeats 4000000 in
theorem greatest_any (op rd rn rm ra imm cond : Int) (wide : Bool) (w : World) :
    Calls Try.prog 38 #[.agg #[.int .i64 op, .int .i64 rd, .int .i64 rn, .int .i64 rm, .int .i64 ra, .int .i64 imm, .int .i64 cond, .bool wide]] w fun e w' =>
      e = .returned (.tuple #[.agg #[.int .i64 (Th.most op imm).op, .int .i64 (Th.most op imm).rd, .int .i64 (Th.most op imm).rn, .int .i64 (Th.most op imm).rm, .int .i64 (Th.most op imm).ra, .int .i64 (Th.most op imm).imm, .int .i64 (Th.most op imm).cond, .bool (Th.most op imm).wide], .bool (Th.known op rd ra)]) ∧ Below w.heap.size w w' := by
  by_cases h17 : op = 17
  · subst h17
    go_enter Try.func38, Try.ntmps38
    go_wp2
    go_region
    go_wp2
    go_returns
    refine ⟨?_, by go_grown⟩
    simp [Th.most, Th.known, Th.none0]
  · have h17' : (op == 17) = false := by simpa using h17
    go_enter Try.func38, Try.ntmps38
    go_wp2
    all_goals
      go_returns
      refine ⟨?_, by go_grown⟩
      simp [Th.most, Th.known, Th.none0, *]

end Go.Proofs.Ytennhpfhgbmnfaa
