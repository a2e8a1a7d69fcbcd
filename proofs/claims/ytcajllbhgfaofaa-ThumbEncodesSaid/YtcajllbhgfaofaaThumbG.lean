/-
  What package thumb's fields returns.
-/
import Derived.Test.YtcajllbhgfaofaaThumbG0
import Derived.Test.YtcajllbhgfaofaaThumbG1
import Derived.Test.YtcajllbhgfaofaaThumbG2
namespace Go.Proofs.Ytcajllbhgfaofaa
open Go.ChangeShapes Go.WideShapes Go.ChangeAt Go.RowKit

set_option maxHeartbeats 4000000 in
theorem fields_any (op rd rn rm ra imm cond : Int) (wide : Bool) (w : World) (h : Th.check ⟨op, rd, rn, rm, ra, imm, cond, wide⟩ = 0) (h1 : op ≠ 1) :
    Calls Try.prog 40 #[.agg #[.int .i64 op, .int .i64 rd, .int .i64 rn, .int .i64 rm, .int .i64 ra, .int .i64 imm, .int .i64 cond, .bool wide]] w (FldsRet (Th.fields ⟨op, rd, rn, rm, ra, imm, cond, wide⟩) w) := by
  have hk : 1 ≤ op ∧ op ≤ 25 := by
    rw [Th.check_ok] at h
    have := h.1; unfold Th.fits at this; rw [Bool.and_eq_true] at this
    exact Th.known_op this.1
  rcases Th.op_cases hk with rfl | rfl | rfl | rfl | rfl | rfl | rfl | rfl | rfl | rfl | rfl | rfl | rfl | rfl | rfl | rfl | rfl | rfl | rfl | rfl | rfl | rfl | rfl | rfl | rfl
  · exact absurd rfl h1
  · exact fields_2 _ _ _ _ _ _ _ w
  · exact fields_3 _ _ _ _ _ _ _ w
  · exact fields_4 _ _ _ _ _ _ _ w
  · exact fields_5 _ _ _ _ _ _ _ w
  · exact fields_6 _ _ _ _ _ _ _ w
  · exact fields_7 _ _ _ _ _ _ _ w
  · exact fields_8 _ _ _ _ _ _ _ w
  · exact fields_9 _ _ _ _ _ _ _ w
  · exact fields_10 _ _ _ _ _ _ _ w
  · exact fields_11 _ _ _ _ _ _ _ w
  · exact fields_12 _ _ _ _ _ _ _ w
  · exact fields_13 _ _ _ _ _ _ _ w
  · exact fields_14 _ _ _ _ _ _ _ w
  · exact fields_15 _ _ _ _ _ _ _ w
  · exact fields_16 _ _ _ _ _ _ _ w
  · exact fields_17 _ _ _ _ _ _ _ w
  · rw [Th.ok18] at h
    exact fields_18 _ _ _ _ _ _ _ w (by omega)
  · exact fields_19 _ _ _ _ _ _ _ w
  · exact fields_20 _ _ _ _ _ _ _ w
  · exact fields_21 _ _ _ _ _ _ _ w
  · exact fields_22 _ _ _ _ _ _ _ w
  · exact fields_23 _ _ _ _ _ _ _ w
  · rw [Th.ok24] at h
    cases wide
    · exact fields_240 _ _ _ _ _ _ w (by simp at h; omega) (by simp at h; omega)
    · exact fields_241 _ _ _ _ _ _ w (by simp at h; omega) (by simp at h; omega)
  · rw [Th.ok25] at h
    cases wide
    · exact fields_250 _ _ _ _ _ _ w (by simp at h; omega) (by simp at h; omega)
    · exact fields_251 _ _ _ _ _ _ w (by simp at h; omega) (by simp at h; omega)
end Go.Proofs.Ytcajllbhgfaofaa
