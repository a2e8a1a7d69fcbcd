/-
  What package thumb's fields returns, part 1.
-/
import Derived.Test.YtplfpaffjaldoaaThumbF
namespace Go.Proofs.Ytplfpaffjaldoaa
open Go.ChangeShapes Go.WideShapes Go.ChangeAt Go.RowKit

set_option maxHeartbeats 1000000 in
theorem fields_10 (rd rn rm ra imm cond : Int) (wide : Bool) (w : World) :
    Calls Try.prog 60 #[.agg #[.int .i64 10, .int .i64 rd, .int .i64 rn, .int .i64 rm, .int .i64 ra, .int .i64 imm, .int .i64 cond, .bool wide]] w (FldsRet [⟨rn, 4, 0, 16⟩, ⟨rd, 4, 0, 8⟩, ⟨rm, 4, 0, 0⟩] w) := by
  go_enter Try.func60, Try.ntmps60
  go_wp2
  go_ret
  exact flds_end1 (L := [⟨rn, 4, 0, 16⟩, ⟨rd, 4, 0, 8⟩, ⟨rm, 4, 0, 0⟩]) rfl
set_option maxHeartbeats 1000000 in
theorem fields_11 (rd rn rm ra imm cond : Int) (wide : Bool) (w : World) :
    Calls Try.prog 60 #[.agg #[.int .i64 11, .int .i64 rd, .int .i64 rn, .int .i64 rm, .int .i64 ra, .int .i64 imm, .int .i64 cond, .bool wide]] w (FldsRet [⟨rn, 4, 0, 16⟩, ⟨rd, 4, 0, 8⟩, ⟨rm, 4, 0, 0⟩] w) := by
  go_enter Try.func60, Try.ntmps60
  go_wp2
  go_ret
  exact flds_end1 (L := [⟨rn, 4, 0, 16⟩, ⟨rd, 4, 0, 8⟩, ⟨rm, 4, 0, 0⟩]) rfl
set_option maxHeartbeats 1000000 in
theorem fields_12 (rd rn rm ra imm cond : Int) (wide : Bool) (w : World) :
    Calls Try.prog 60 #[.agg #[.int .i64 12, .int .i64 rd, .int .i64 rn, .int .i64 rm, .int .i64 ra, .int .i64 imm, .int .i64 cond, .bool wide]] w (FldsRet [⟨rn, 4, 0, 16⟩, ⟨rd, 4, 0, 8⟩, ⟨rm, 4, 0, 0⟩] w) := by
  go_enter Try.func60, Try.ntmps60
  go_wp2
  go_ret
  exact flds_end1 (L := [⟨rn, 4, 0, 16⟩, ⟨rd, 4, 0, 8⟩, ⟨rm, 4, 0, 0⟩]) rfl
set_option maxHeartbeats 1000000 in
theorem fields_13 (rd rn rm ra imm cond : Int) (wide : Bool) (w : World) :
    Calls Try.prog 60 #[.agg #[.int .i64 13, .int .i64 rd, .int .i64 rn, .int .i64 rm, .int .i64 ra, .int .i64 imm, .int .i64 cond, .bool wide]] w (FldsRet [⟨rn, 4, 0, 16⟩, ⟨rd, 4, 0, 8⟩, ⟨rm, 4, 0, 0⟩] w) := by
  go_enter Try.func60, Try.ntmps60
  go_wp2
  go_ret
  exact flds_end1 (L := [⟨rn, 4, 0, 16⟩, ⟨rd, 4, 0, 8⟩, ⟨rm, 4, 0, 0⟩]) rfl
set_option maxHeartbeats 1000000 in
theorem fields_14 (rd rn rm ra imm cond : Int) (wide : Bool) (w : World) :
    Calls Try.prog 60 #[.agg #[.int .i64 14, .int .i64 rd, .int .i64 rn, .int .i64 rm, .int .i64 ra, .int .i64 imm, .int .i64 cond, .bool wide]] w (FldsRet [⟨rn, 4, 0, 16⟩, ⟨rd, 4, 0, 8⟩, ⟨rm, 4, 0, 0⟩] w) := by
  go_enter Try.func60, Try.ntmps60
  go_wp2
  go_ret
  exact flds_end1 (L := [⟨rn, 4, 0, 16⟩, ⟨rd, 4, 0, 8⟩, ⟨rm, 4, 0, 0⟩]) rfl
set_option maxHeartbeats 1000000 in
theorem fields_15 (rd rn rm ra imm cond : Int) (wide : Bool) (w : World) :
    Calls Try.prog 60 #[.agg #[.int .i64 15, .int .i64 rd, .int .i64 rn, .int .i64 rm, .int .i64 ra, .int .i64 imm, .int .i64 cond, .bool wide]] w (FldsRet [⟨rn, 4, 0, 16⟩, ⟨rd, 4, 0, 8⟩, ⟨rm, 4, 0, 0⟩] w) := by
  go_enter Try.func60, Try.ntmps60
  go_wp2
  go_ret
  exact flds_end1 (L := [⟨rn, 4, 0, 16⟩, ⟨rd, 4, 0, 8⟩, ⟨rm, 4, 0, 0⟩]) rfl
set_option maxHeartbeats 1000000 in
theorem fields_16 (rd rn rm ra imm cond : Int) (wide : Bool) (w : World) :
    Calls Try.prog 60 #[.agg #[.int .i64 16, .int .i64 rd, .int .i64 rn, .int .i64 rm, .int .i64 ra, .int .i64 imm, .int .i64 cond, .bool wide]] w (FldsRet [⟨rn, 4, 0, 16⟩, ⟨rd, 4, 0, 8⟩, ⟨rm, 4, 0, 0⟩] w) := by
  go_enter Try.func60, Try.ntmps60
  go_wp2
  go_ret
  exact flds_end1 (L := [⟨rn, 4, 0, 16⟩, ⟨rd, 4, 0, 8⟩, ⟨rm, 4, 0, 0⟩]) rfl
set_option maxHeartbeats 1000000 in
theorem fields_17 (rd rn rm ra imm cond : Int) (wide : Bool) (w : World) :
    Calls Try.prog 60 #[.agg #[.int .i64 17, .int .i64 rd, .int .i64 rn, .int .i64 rm, .int .i64 ra, .int .i64 imm, .int .i64 cond, .bool wide]] w (FldsRet [⟨rn, 4, 0, 16⟩, ⟨rd, 4, 0, 12⟩, ⟨ra, 4, 0, 8⟩, ⟨rm, 4, 0, 0⟩] w) := by
  go_enter Try.func60, Try.ntmps60
  go_wp2
  go_ret
  exact flds_end1 (L := [⟨rn, 4, 0, 16⟩, ⟨rd, 4, 0, 12⟩, ⟨ra, 4, 0, 8⟩, ⟨rm, 4, 0, 0⟩]) rfl
end Go.Proofs.Ytplfpaffjaldoaa
