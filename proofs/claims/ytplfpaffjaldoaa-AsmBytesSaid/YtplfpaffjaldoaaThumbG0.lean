/-
  What package thumb's fields returns, part 0.
-/
import Derived.Test.YtplfpaffjaldoaaThumbF
namespace Go.Proofs.Ytplfpaffjaldoaa
open Go.ChangeShapes Go.WideShapes Go.ChangeAt Go.RowKit

theorem fields_nop (rd rn rm ra imm cond : Int) (wide : Bool) (w : World) :
    Calls Try.prog 60 #[.agg #[.int .i64 1, .int .i64 rd, .int .i64 rn, .int .i64 rm, .int .i64 ra, .int .i64 imm, .int .i64 cond, .bool wide]] w fun e w' => e = .returned (.slice none 0 0) ∧ Below w.heap.size w w' := by
  go_enter Try.func60, Try.ntmps60
  go_wp2
  go_ret
  exact ⟨rfl, by go_grown⟩
set_option maxHeartbeats 1000000 in
theorem fields_2 (rd rn rm ra imm cond : Int) (wide : Bool) (w : World) :
    Calls Try.prog 60 #[.agg #[.int .i64 2, .int .i64 rd, .int .i64 rn, .int .i64 rm, .int .i64 ra, .int .i64 imm, .int .i64 cond, .bool wide]] w (FldsRet [⟨imm, 8, 0, 0⟩] w) := by
  go_enter Try.func60, Try.ntmps60
  go_wp2
  go_ret
  exact flds_end1 (L := [⟨imm, 8, 0, 0⟩]) rfl
set_option maxHeartbeats 1000000 in
theorem fields_3 (rd rn rm ra imm cond : Int) (wide : Bool) (w : World) :
    Calls Try.prog 60 #[.agg #[.int .i64 3, .int .i64 rd, .int .i64 rn, .int .i64 rm, .int .i64 ra, .int .i64 imm, .int .i64 cond, .bool wide]] w (FldsRet [⟨imm, 1, 11, 26⟩, ⟨imm, 4, 12, 16⟩, ⟨imm, 3, 8, 12⟩, ⟨rd, 4, 0, 8⟩, ⟨imm, 8, 0, 0⟩] w) := by
  go_enter Try.func60, Try.ntmps60
  go_wp2
  go_ret
  exact flds_end1 (L := [⟨imm, 1, 11, 26⟩, ⟨imm, 4, 12, 16⟩, ⟨imm, 3, 8, 12⟩, ⟨rd, 4, 0, 8⟩, ⟨imm, 8, 0, 0⟩]) rfl
set_option maxHeartbeats 1000000 in
theorem fields_4 (rd rn rm ra imm cond : Int) (wide : Bool) (w : World) :
    Calls Try.prog 60 #[.agg #[.int .i64 4, .int .i64 rd, .int .i64 rn, .int .i64 rm, .int .i64 ra, .int .i64 imm, .int .i64 cond, .bool wide]] w (FldsRet [⟨imm, 1, 11, 26⟩, ⟨imm, 4, 12, 16⟩, ⟨imm, 3, 8, 12⟩, ⟨rd, 4, 0, 8⟩, ⟨imm, 8, 0, 0⟩] w) := by
  go_enter Try.func60, Try.ntmps60
  go_wp2
  go_ret
  exact flds_end1 (L := [⟨imm, 1, 11, 26⟩, ⟨imm, 4, 12, 16⟩, ⟨imm, 3, 8, 12⟩, ⟨rd, 4, 0, 8⟩, ⟨imm, 8, 0, 0⟩]) rfl
set_option maxHeartbeats 1000000 in
theorem fields_5 (rd rn rm ra imm cond : Int) (wide : Bool) (w : World) :
    Calls Try.prog 60 #[.agg #[.int .i64 5, .int .i64 rd, .int .i64 rn, .int .i64 rm, .int .i64 ra, .int .i64 imm, .int .i64 cond, .bool wide]] w (FldsRet [⟨imm, 3, 2, 12⟩, ⟨rd, 4, 0, 8⟩, ⟨imm, 2, 0, 6⟩, ⟨rm, 4, 0, 0⟩] w) := by
  go_enter Try.func60, Try.ntmps60
  go_wp2
  go_ret
  exact flds_end1 (L := [⟨imm, 3, 2, 12⟩, ⟨rd, 4, 0, 8⟩, ⟨imm, 2, 0, 6⟩, ⟨rm, 4, 0, 0⟩]) rfl
set_option maxHeartbeats 1000000 in
theorem fields_6 (rd rn rm ra imm cond : Int) (wide : Bool) (w : World) :
    Calls Try.prog 60 #[.agg #[.int .i64 6, .int .i64 rd, .int .i64 rn, .int .i64 rm, .int .i64 ra, .int .i64 imm, .int .i64 cond, .bool wide]] w (FldsRet [⟨imm, 3, 2, 12⟩, ⟨rd, 4, 0, 8⟩, ⟨imm, 2, 0, 6⟩, ⟨rm, 4, 0, 0⟩] w) := by
  go_enter Try.func60, Try.ntmps60
  go_wp2
  go_ret
  exact flds_end1 (L := [⟨imm, 3, 2, 12⟩, ⟨rd, 4, 0, 8⟩, ⟨imm, 2, 0, 6⟩, ⟨rm, 4, 0, 0⟩]) rfl
set_option maxHeartbeats 1000000 in
theorem fields_7 (rd rn rm ra imm cond : Int) (wide : Bool) (w : World) :
    Calls Try.prog 60 #[.agg #[.int .i64 7, .int .i64 rd, .int .i64 rn, .int .i64 rm, .int .i64 ra, .int .i64 imm, .int .i64 cond, .bool wide]] w (FldsRet [⟨imm, 3, 2, 12⟩, ⟨rd, 4, 0, 8⟩, ⟨imm, 2, 0, 6⟩, ⟨rm, 4, 0, 0⟩] w) := by
  go_enter Try.func60, Try.ntmps60
  go_wp2
  go_ret
  exact flds_end1 (L := [⟨imm, 3, 2, 12⟩, ⟨rd, 4, 0, 8⟩, ⟨imm, 2, 0, 6⟩, ⟨rm, 4, 0, 0⟩]) rfl
set_option maxHeartbeats 1000000 in
theorem fields_8 (rd rn rm ra imm cond : Int) (wide : Bool) (w : World) :
    Calls Try.prog 60 #[.agg #[.int .i64 8, .int .i64 rd, .int .i64 rn, .int .i64 rm, .int .i64 ra, .int .i64 imm, .int .i64 cond, .bool wide]] w (FldsRet [⟨imm, 3, 2, 12⟩, ⟨rd, 4, 0, 8⟩, ⟨imm, 2, 0, 6⟩, ⟨rm, 4, 0, 0⟩] w) := by
  go_enter Try.func60, Try.ntmps60
  go_wp2
  go_ret
  exact flds_end1 (L := [⟨imm, 3, 2, 12⟩, ⟨rd, 4, 0, 8⟩, ⟨imm, 2, 0, 6⟩, ⟨rm, 4, 0, 0⟩]) rfl
set_option maxHeartbeats 1000000 in
theorem fields_9 (rd rn rm ra imm cond : Int) (wide : Bool) (w : World) :
    Calls Try.prog 60 #[.agg #[.int .i64 9, .int .i64 rd, .int .i64 rn, .int .i64 rm, .int .i64 ra, .int .i64 imm, .int .i64 cond, .bool wide]] w (FldsRet [⟨rd, 4, 0, 8⟩, ⟨rm, 4, 0, 0⟩] w) := by
  go_enter Try.func60, Try.ntmps60
  go_wp2
  go_ret
  exact flds_end1 (L := [⟨rd, 4, 0, 8⟩, ⟨rm, 4, 0, 0⟩]) rfl
end Go.Proofs.Ytplfpaffjaldoaa
