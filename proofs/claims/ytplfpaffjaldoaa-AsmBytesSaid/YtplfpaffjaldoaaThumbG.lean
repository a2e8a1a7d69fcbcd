/-
What package thumb's fields returns, part 2.
What package thumb's fields returns.
-/
import Derived.Test.YtplfpaffjaldoaaThumbF
import Derived.Test.YtplfpaffjaldoaaThumbG0
import Derived.Test.YtplfpaffjaldoaaThumbG1
section
namespace Go.Proofs.Ytplfpaffjaldoaa
open Go.ChangeShapes Go.WideShapes Go.ChangeAt Go.RowKit

set_option maxHeartbeats 1000000 in
theorem fields_18 (rd rn rm ra imm cond : Int) (wide : Bool) (w : World) (h : 1 ≤ ra ∧ ra ≤ 32 ∧ 0 ≤ imm ∧ imm ≤ 31) :
    Calls Try.prog 60 #[.agg #[.int .i64 18, .int .i64 rd, .int .i64 rn, .int .i64 rm, .int .i64 ra, .int .i64 imm, .int .i64 cond, .bool wide]] w (FldsRet [⟨rn, 4, 0, 16⟩, ⟨imm, 3, 2, 12⟩, ⟨rd, 4, 0, 8⟩, ⟨imm, 2, 0, 6⟩, ⟨(imm + ra - 1), 5, 0, 0⟩] w) := by
  obtain ⟨h0, h1, h2, h3⟩ := h
  go_enter Try.func60, Try.ntmps60
  go_wp2
  go_ret
  exact flds_end1 (L := [⟨rn, 4, 0, 16⟩, ⟨imm, 3, 2, 12⟩, ⟨rd, 4, 0, 8⟩, ⟨imm, 2, 0, 6⟩, ⟨(imm + ra - 1), 5, 0, 0⟩]) rfl
set_option maxHeartbeats 1000000 in
theorem fields_19 (rd rn rm ra imm cond : Int) (wide : Bool) (w : World) :
    Calls Try.prog 60 #[.agg #[.int .i64 19, .int .i64 rd, .int .i64 rn, .int .i64 rm, .int .i64 ra, .int .i64 imm, .int .i64 cond, .bool wide]] w (FldsRet [⟨rn, 3, 0, 3⟩, ⟨rd, 3, 0, 0⟩] w) := by
  go_enter Try.func60, Try.ntmps60
  go_wp2
  go_ret
  exact flds_end1 (L := [⟨rn, 3, 0, 3⟩, ⟨rd, 3, 0, 0⟩]) rfl
set_option maxHeartbeats 1000000 in
theorem fields_20 (rd rn rm ra imm cond : Int) (wide : Bool) (w : World) :
    Calls Try.prog 60 #[.agg #[.int .i64 20, .int .i64 rd, .int .i64 rn, .int .i64 rm, .int .i64 ra, .int .i64 imm, .int .i64 cond, .bool wide]] w (FldsRet [⟨rn, 3, 0, 3⟩, ⟨rd, 3, 0, 0⟩] w) := by
  go_enter Try.func60, Try.ntmps60
  go_wp2
  go_ret
  exact flds_end1 (L := [⟨rn, 3, 0, 3⟩, ⟨rd, 3, 0, 0⟩]) rfl
set_option maxHeartbeats 1000000 in
theorem fields_21 (rd rn rm ra imm cond : Int) (wide : Bool) (w : World) :
    Calls Try.prog 60 #[.agg #[.int .i64 21, .int .i64 rd, .int .i64 rn, .int .i64 rm, .int .i64 ra, .int .i64 imm, .int .i64 cond, .bool wide]] w (FldsRet [⟨rn, 3, 0, 3⟩, ⟨rd, 3, 0, 0⟩] w) := by
  go_enter Try.func60, Try.ntmps60
  go_wp2
  go_ret
  exact flds_end1 (L := [⟨rn, 3, 0, 3⟩, ⟨rd, 3, 0, 0⟩]) rfl
set_option maxHeartbeats 1000000 in
theorem fields_22 (rd rn rm ra imm cond : Int) (wide : Bool) (w : World) :
    Calls Try.prog 60 #[.agg #[.int .i64 22, .int .i64 rd, .int .i64 rn, .int .i64 rm, .int .i64 ra, .int .i64 imm, .int .i64 cond, .bool wide]] w (FldsRet [⟨rn, 3, 0, 3⟩, ⟨rd, 3, 0, 0⟩] w) := by
  go_enter Try.func60, Try.ntmps60
  go_wp2
  go_ret
  exact flds_end1 (L := [⟨rn, 3, 0, 3⟩, ⟨rd, 3, 0, 0⟩]) rfl
set_option maxHeartbeats 1000000 in
theorem fields_23 (rd rn rm ra imm cond : Int) (wide : Bool) (w : World) :
    Calls Try.prog 60 #[.agg #[.int .i64 23, .int .i64 rd, .int .i64 rn, .int .i64 rm, .int .i64 ra, .int .i64 imm, .int .i64 cond, .bool wide]] w (FldsRet [⟨rm, 3, 0, 3⟩, ⟨rn, 3, 0, 0⟩] w) := by
  go_enter Try.func60, Try.ntmps60
  go_wp2
  go_ret
  exact flds_end1 (L := [⟨rm, 3, 0, 3⟩, ⟨rn, 3, 0, 0⟩]) rfl
set_option maxHeartbeats 1000000 in
theorem fields_240 (rd rn rm ra imm cond : Int) (w : World) (h0 : -16777216 ≤ imm) (h1 : imm ≤ 16777214) :
    Calls Try.prog 60 #[.agg #[.int .i64 24, .int .i64 rd, .int .i64 rn, .int .i64 rm, .int .i64 ra, .int .i64 imm, .int .i64 cond, .bool false]] w (FldsRet [⟨(Th.off imm), 11, 1, 0⟩] w) := by
  by_cases hs : imm < 0
  · have e : Th.off imm = imm + 33554432 := by unfold Th.off; rw [if_pos hs]
    rw [e]
    clear e
    go_enter Try.func60, Try.ntmps60
    go_wp2_with (go_at_call 74; refine (branchFields_2401 _ _ _ _ _ _ _ (by omega) (by omega)).mono ?_; rintro e w' ⟨b, rfl, g1, g2, g3⟩)
    go_ret
    exact ⟨b, rfl, g1, g2, ((Below.refl _ _).alloc (Nat.le_refl _) _).trans (g3.mono (by simp))⟩
  · have e : Th.off imm = imm := by unfold Th.off; rw [if_neg hs]
    rw [e]
    clear e
    have hs' : 0 ≤ imm := by omega
    clear hs
    go_enter Try.func60, Try.ntmps60
    go_wp2_with (go_at_call 74; refine (branchFields_2400 _ _ _ _ _ _ _ (by omega) (by omega)).mono ?_; rintro e w' ⟨b, rfl, g1, g2, g3⟩)
    go_ret
    exact ⟨b, rfl, g1, g2, ((Below.refl _ _).alloc (Nat.le_refl _) _).trans (g3.mono (by simp))⟩
set_option maxHeartbeats 1000000 in
theorem fields_241 (rd rn rm ra imm cond : Int) (w : World) (h0 : -16777216 ≤ imm) (h1 : imm ≤ 16777214) :
    Calls Try.prog 60 #[.agg #[.int .i64 24, .int .i64 rd, .int .i64 rn, .int .i64 rm, .int .i64 ra, .int .i64 imm, .int .i64 cond, .bool true]] w (FldsRet [⟨(Th.off imm), 1, 24, 26⟩, ⟨(Th.off imm), 10, 12, 16⟩, ⟨(Th.alike (Th.off imm) 23 24), 1, 0, 13⟩, ⟨(Th.alike (Th.off imm) 22 24), 1, 0, 11⟩, ⟨(Th.off imm), 11, 1, 0⟩] w) := by
  by_cases hs : imm < 0
  · have e : Th.off imm = imm + 33554432 := by unfold Th.off; rw [if_pos hs]
    rw [e]
    clear e
    go_enter Try.func60, Try.ntmps60
    go_wp2_with (go_at_call 74; refine (branchFields_2411 _ _ _ _ _ _ _ (by omega) (by omega)).mono ?_; rintro e w' ⟨b, rfl, g1, g2, g3⟩)
    go_ret
    exact ⟨b, rfl, g1, g2, ((Below.refl _ _).alloc (Nat.le_refl _) _).trans (g3.mono (by simp))⟩
  · have e : Th.off imm = imm := by unfold Th.off; rw [if_neg hs]
    rw [e]
    clear e
    have hs' : 0 ≤ imm := by omega
    clear hs
    go_enter Try.func60, Try.ntmps60
    go_wp2_with (go_at_call 74; refine (branchFields_2410 _ _ _ _ _ _ _ (by omega) (by omega)).mono ?_; rintro e w' ⟨b, rfl, g1, g2, g3⟩)
    go_ret
    exact ⟨b, rfl, g1, g2, ((Below.refl _ _).alloc (Nat.le_refl _) _).trans (g3.mono (by simp))⟩
set_option maxHeartbeats 1000000 in
theorem fields_250 (rd rn rm ra imm cond : Int) (w : World) (h0 : -16777216 ≤ imm) (h1 : imm ≤ 16777214) :
    Calls Try.prog 60 #[.agg #[.int .i64 25, .int .i64 rd, .int .i64 rn, .int .i64 rm, .int .i64 ra, .int .i64 imm, .int .i64 cond, .bool false]] w (FldsRet [⟨cond, 4, 0, 8⟩, ⟨(Th.off imm), 8, 1, 0⟩] w) := by
  by_cases hs : imm < 0
  · have e : Th.off imm = imm + 33554432 := by unfold Th.off; rw [if_pos hs]
    rw [e]
    clear e
    go_enter Try.func60, Try.ntmps60
    go_wp2_with (go_at_call 74; refine (branchFields_2501 _ _ _ _ _ _ _ (by omega) (by omega)).mono ?_; rintro e w' ⟨b, rfl, g1, g2, g3⟩)
    go_ret
    exact ⟨b, rfl, g1, g2, ((Below.refl _ _).alloc (Nat.le_refl _) _).trans (g3.mono (by simp))⟩
  · have e : Th.off imm = imm := by unfold Th.off; rw [if_neg hs]
    rw [e]
    clear e
    have hs' : 0 ≤ imm := by omega
    clear hs
    go_enter Try.func60, Try.ntmps60
    go_wp2_with (go_at_call 74; refine (branchFields_2500 _ _ _ _ _ _ _ (by omega) (by omega)).mono ?_; rintro e w' ⟨b, rfl, g1, g2, g3⟩)
    go_ret
    exact ⟨b, rfl, g1, g2, ((Below.refl _ _).alloc (Nat.le_refl _) _).trans (g3.mono (by simp))⟩
set_option maxHeartbeats 1000000 in
theorem fields_251 (rd rn rm ra imm cond : Int) (w : World) (h0 : -16777216 ≤ imm) (h1 : imm ≤ 16777214) :
    Calls Try.prog 60 #[.agg #[.int .i64 25, .int .i64 rd, .int .i64 rn, .int .i64 rm, .int .i64 ra, .int .i64 imm, .int .i64 cond, .bool true]] w (FldsRet [⟨(Th.off imm), 1, 20, 26⟩, ⟨cond, 4, 0, 22⟩, ⟨(Th.off imm), 6, 12, 16⟩, ⟨(Th.off imm), 1, 18, 13⟩, ⟨(Th.off imm), 1, 19, 11⟩, ⟨(Th.off imm), 11, 1, 0⟩] w) := by
  by_cases hs : imm < 0
  · have e : Th.off imm = imm + 33554432 := by unfold Th.off; rw [if_pos hs]
    rw [e]
    clear e
    go_enter Try.func60, Try.ntmps60
    go_wp2_with (go_at_call 74; refine (branchFields_2511 _ _ _ _ _ _ _ (by omega) (by omega)).mono ?_; rintro e w' ⟨b, rfl, g1, g2, g3⟩)
    go_ret
    exact ⟨b, rfl, g1, g2, ((Below.refl _ _).alloc (Nat.le_refl _) _).trans (g3.mono (by simp))⟩
  · have e : Th.off imm = imm := by unfold Th.off; rw [if_neg hs]
    rw [e]
    clear e
    have hs' : 0 ≤ imm := by omega
    clear hs
    go_enter Try.func60, Try.ntmps60
    go_wp2_with (go_at_call 74; refine (branchFields_2510 _ _ _ _ _ _ _ (by omega) (by omega)).mono ?_; rintro e w' ⟨b, rfl, g1, g2, g3⟩)
    go_ret
    exact ⟨b, rfl, g1, g2, ((Below.refl _ _).alloc (Nat.le_refl _) _).trans (g3.mono (by simp))⟩
end Go.Proofs.Ytplfpaffjaldoaa
end
section
namespace Go.Proofs.Ytplfpaffjaldoaa
open Go.ChangeShapes Go.WideShapes Go.ChangeAt Go.RowKit

set_option maxHeartbeats 4000000 in
theorem fields_any (op rd rn rm ra imm cond : Int) (wide : Bool) (w : World) (h : Th.check ⟨op, rd, rn, rm, ra, imm, cond, wide⟩ = 0) (h1 : op ≠ 1) :
    Calls Try.prog 60 #[.agg #[.int .i64 op, .int .i64 rd, .int .i64 rn, .int .i64 rm, .int .i64 ra, .int .i64 imm, .int .i64 cond, .bool wide]] w (FldsRet (Th.fields ⟨op, rd, rn, rm, ra, imm, cond, wide⟩) w) := by
  have hk : 1 ≤ op ∧ op ≤ 25 := by
    rw [Th.check_ok] at h
    have := h.1; unfold Th.fits at this; rw [Bool.and_eq_true] at this
    exact Th.known_op this.1
  rcases Th.op_cases hk with rfl | rfl | rfl | rfl | rfl | rfl | rfl | rfl | rfl | rfl | rfl | rfl | rfl | rfl | rfl | rfl | rfl | rfl | rfl | rfl | rfl | rfl | rfl | rfl | rfl
  · exact absurd rfl h1
  · exact fields_2 _ _ _ _ _ _ _ w
  · exact fields_3 _ _ _ _ _ _ _ w
  · exact fields_4 _ _ _ _ _ _ _ w
  · exact fields_5 _ _ _ _ _ _ _ w
  · exact fields_6 _ _ _ _ _ _ _ w
  · exact fields_7 _ _ _ _ _ _ _ w
  · exact fields_8 _ _ _ _ _ _ _ w
  · exact fields_9 _ _ _ _ _ _ _ w
  · exact fields_10 _ _ _ _ _ _ _ w
  · exact fields_11 _ _ _ _ _ _ _ w
  · exact fields_12 _ _ _ _ _ _ _ w
  · exact fields_13 _ _ _ _ _ _ _ w
  · exact fields_14 _ _ _ _ _ _ _ w
  · exact fields_15 _ _ _ _ _ _ _ w
  · exact fields_16 _ _ _ _ _ _ _ w
  · exact fields_17 _ _ _ _ _ _ _ w
  · rw [Th.ok18] at h
    exact fields_18 _ _ _ _ _ _ _ w (by omega)
  · exact fields_19 _ _ _ _ _ _ _ w
  · exact fields_20 _ _ _ _ _ _ _ w
  · exact fields_21 _ _ _ _ _ _ _ w
  · exact fields_22 _ _ _ _ _ _ _ w
  · exact fields_23 _ _ _ _ _ _ _ w
  · rw [Th.ok24] at h
    cases wide
    · exact fields_240 _ _ _ _ _ _ w (by simp at h; omega) (by simp at h; omega)
    · exact fields_241 _ _ _ _ _ _ w (by simp at h; omega) (by simp at h; omega)
  · rw [Th.ok25] at h
    cases wide
    · exact fields_250 _ _ _ _ _ _ w (by simp at h; omega) (by simp at h; omega)
    · exact fields_251 _ _ _ _ _ _ w (by simp at h; omega) (by simp at h; omega)
end Go.Proofs.Ytplfpaffjaldoaa
end
