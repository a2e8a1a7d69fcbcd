/-
  What the document's own bit and field of thumb return.
-/
import Derived.Test.YtcajllbhgfaofaaThumbM10
import Derived.Test.YtcajllbhgfaofaaThumbT
namespace Go.Proofs.Ytcajllbhgfaofaa
open Go.ChangeShapes Go.WideShapes Go.ChangeAt Go.RowKit

set_option linter.unusedVariables false
theorem half_step (X k : Nat) : X / 2 ^ k / 2 = X / 2 ^ (k + 1) := by rw [Nat.pow_succ, Nat.div_div_eq_div_mul]
set_option maxHeartbeats 1000000 in
theorem rbit_any (x : Int) (n : Nat) (w : World) (h0 : 0 ≤ x) (h1 : x < 9223372036854775808) (hn : n ≤ 300) :
    Calls Try.prog 54 #[.int .i64 x, .int .i64 (n : Int)] w fun e w' => e = .returned (.int .i64 (Th.rbit x n : Int)) ∧ w = w' := by
  obtain ⟨X, rfl⟩ := Int.eq_ofNat_of_zero_le h0
  have e0 : IntKind.u64.wrap (X : Int) = (X : Int) := Wd.u64_wrap _ (by omega) (by omega)
  go_enter Try.func54, Try.ntmps54
  go_wp2
  go_loop [5, 6] (fun u i => ∃ k : Nat, k ≤ n ∧ i = .int .i64 k ∧ u = .int .u64 ((X / 2 ^ k : Nat) : Int)) (fun _ i => n - (intOf i).toNat)
  case atStart => exact ⟨0, Nat.zero_le _, rfl, by simp⟩
  case round =>
    obtain ⟨k, hk, rfl, rfl⟩ := hrel
    have hb : X / 2 ^ k ≤ X := Nat.div_le_self _ _
    have HS := Lib.hid (half_step X k)
    generalize hY : X / 2 ^ k = Y at *
    have HY := Lib.hid hY
    clear hY
    by_cases hlt : k < n
    · go_wp2
      go_round
      case rel => exact ⟨k + 1, by omega, by go_num, by rw [← HS.out]; go_num⟩
      case measure => simp [intOf]; omega
    · go_wp2
      go_ret
      have ek : k = n := by omega
      exact ⟨ret_int (by unfold Th.rbit; rw [Int.toNat_natCast, ← ek, HY.out]; rfl), rfl⟩
theorem rbit_int (x n : Int) (w : World) (h0 : 0 ≤ x) (h1 : x < 9223372036854775808) (hn0 : 0 ≤ n) (hn : n ≤ 300) :
    Calls Try.prog 54 #[.int .i64 x, .int .i64 n] w fun e w' => e = .returned (.int .i64 (Th.rbit x n.toNat : Int)) ∧ w = w' := by
  obtain ⟨m, rfl⟩ := Int.eq_ofNat_of_zero_le hn0
  exact rbit_any x m w h0 h1 (by omega)
theorem rbit_lt (x : Int) (n : Nat) : Th.rbit x n < 2 := Nat.mod_lt _ (by decide)
set_option maxHeartbeats 4000000 in
theorem fld_0 (op rd rn rm ra imm cond : Int) (wide : Bool) (f : Nat) (w : World) (hf : f ≤ 300) (h1 : 0 ≤ rd ∧ rd ≤ 12) (h2 : 0 ≤ rn ∧ rn ≤ 12) (h3 : 0 ≤ rm ∧ rm ≤ 12) (h4 : 0 ≤ ra ∧ ra ≤ 32) (h5 : -16777216 ≤ imm ∧ imm ≤ 16777214) (h6 : 0 ≤ cond ∧ cond ≤ 13)  :
    Calls Try.prog 41 #[.agg #[.int .i64 op, .int .i64 rd, .int .i64 rn, .int .i64 rm, .int .i64 ra, .int .i64 imm, .int .i64 cond, .bool wide], .int .u8 48, .int .i64 (f : Int)] w fun e w' => e = .returned (.int .i64 (0 : Int)) ∧ Below w.heap.size w w' := by
  obtain ⟨h1a, h1b⟩ := h1
  obtain ⟨h2a, h2b⟩ := h2
  obtain ⟨h3a, h3b⟩ := h3
  obtain ⟨h4a, h4b⟩ := h4
  obtain ⟨h5a, h5b⟩ := h5
  obtain ⟨h6a, h6b⟩ := h6
  go_enter Try.func41, Try.ntmps41
  go_wp2
  all_goals (go_ret; exact ⟨rfl, by go_grown⟩)
set_option maxHeartbeats 4000000 in
theorem fld_1 (op rd rn rm ra imm cond : Int) (wide : Bool) (f : Nat) (w : World) (hf : f ≤ 300) (h1 : 0 ≤ rd ∧ rd ≤ 12) (h2 : 0 ≤ rn ∧ rn ≤ 12) (h3 : 0 ≤ rm ∧ rm ≤ 12) (h4 : 0 ≤ ra ∧ ra ≤ 32) (h5 : -16777216 ≤ imm ∧ imm ≤ 16777214) (h6 : 0 ≤ cond ∧ cond ≤ 13)  :
    Calls Try.prog 41 #[.agg #[.int .i64 op, .int .i64 rd, .int .i64 rn, .int .i64 rm, .int .i64 ra, .int .i64 imm, .int .i64 cond, .bool wide], .int .u8 49, .int .i64 (f : Int)] w fun e w' => e = .returned (.int .i64 (1 : Int)) ∧ Below w.heap.size w w' := by
  obtain ⟨h1a, h1b⟩ := h1
  obtain ⟨h2a, h2b⟩ := h2
  obtain ⟨h3a, h3b⟩ := h3
  obtain ⟨h4a, h4b⟩ := h4
  obtain ⟨h5a, h5b⟩ := h5
  obtain ⟨h6a, h6b⟩ := h6
  go_enter Try.func41, Try.ntmps41
  go_wp2
  all_goals (go_ret; exact ⟨rfl, by go_grown⟩)
set_option maxHeartbeats 4000000 in
theorem fld_d (op rd rn rm ra imm cond : Int) (wide : Bool) (f : Nat) (w : World) (hf : f ≤ 300) (h1 : 0 ≤ rd ∧ rd ≤ 12) (h2 : 0 ≤ rn ∧ rn ≤ 12) (h3 : 0 ≤ rm ∧ rm ≤ 12) (h4 : 0 ≤ ra ∧ ra ≤ 32) (h5 : -16777216 ≤ imm ∧ imm ≤ 16777214) (h6 : 0 ≤ cond ∧ cond ≤ 13)  :
    Calls Try.prog 41 #[.agg #[.int .i64 op, .int .i64 rd, .int .i64 rn, .int .i64 rm, .int .i64 ra, .int .i64 imm, .int .i64 cond, .bool wide], .int .u8 100, .int .i64 (f : Int)] w fun e w' => e = .returned (.int .i64 ((Th.rbit rd f : Nat) : Int)) ∧ Below w.heap.size w w' := by
  obtain ⟨h1a, h1b⟩ := h1
  obtain ⟨h2a, h2b⟩ := h2
  obtain ⟨h3a, h3b⟩ := h3
  obtain ⟨h4a, h4b⟩ := h4
  obtain ⟨h5a, h5b⟩ := h5
  obtain ⟨h6a, h6b⟩ := h6
  go_enter Try.func41, Try.ntmps41
  go_wp2_with (go_at_call 54; refine (rbit_int _ _ _ (by omega) (by omega) (by omega) (by omega)).mono ?_; rintro e w' ⟨rfl, rfl⟩)
  all_goals (go_ret; exact ⟨rfl, by go_grown⟩)
set_option maxHeartbeats 4000000 in
theorem fld_n (op rd rn rm ra imm cond : Int) (wide : Bool) (f : Nat) (w : World) (hf : f ≤ 300) (h1 : 0 ≤ rd ∧ rd ≤ 12) (h2 : 0 ≤ rn ∧ rn ≤ 12) (h3 : 0 ≤ rm ∧ rm ≤ 12) (h4 : 0 ≤ ra ∧ ra ≤ 32) (h5 : -16777216 ≤ imm ∧ imm ≤ 16777214) (h6 : 0 ≤ cond ∧ cond ≤ 13)  :
    Calls Try.prog 41 #[.agg #[.int .i64 op, .int .i64 rd, .int .i64 rn, .int .i64 rm, .int .i64 ra, .int .i64 imm, .int .i64 cond, .bool wide], .int .u8 110, .int .i64 (f : Int)] w fun e w' => e = .returned (.int .i64 ((Th.rbit rn f : Nat) : Int)) ∧ Below w.heap.size w w' := by
  obtain ⟨h1a, h1b⟩ := h1
  obtain ⟨h2a, h2b⟩ := h2
  obtain ⟨h3a, h3b⟩ := h3
  obtain ⟨h4a, h4b⟩ := h4
  obtain ⟨h5a, h5b⟩ := h5
  obtain ⟨h6a, h6b⟩ := h6
  go_enter Try.func41, Try.ntmps41
  go_wp2_with (go_at_call 54; refine (rbit_int _ _ _ (by omega) (by omega) (by omega) (by omega)).mono ?_; rintro e w' ⟨rfl, rfl⟩)
  all_goals (go_ret; exact ⟨rfl, by go_grown⟩)
set_option maxHeartbeats 4000000 in
theorem fld_m (op rd rn rm ra imm cond : Int) (wide : Bool) (f : Nat) (w : World) (hf : f ≤ 300) (h1 : 0 ≤ rd ∧ rd ≤ 12) (h2 : 0 ≤ rn ∧ rn ≤ 12) (h3 : 0 ≤ rm ∧ rm ≤ 12) (h4 : 0 ≤ ra ∧ ra ≤ 32) (h5 : -16777216 ≤ imm ∧ imm ≤ 16777214) (h6 : 0 ≤ cond ∧ cond ≤ 13)  :
    Calls Try.prog 41 #[.agg #[.int .i64 op, .int .i64 rd, .int .i64 rn, .int .i64 rm, .int .i64 ra, .int .i64 imm, .int .i64 cond, .bool wide], .int .u8 109, .int .i64 (f : Int)] w fun e w' => e = .returned (.int .i64 ((Th.rbit rm f : Nat) : Int)) ∧ Below w.heap.size w w' := by
  obtain ⟨h1a, h1b⟩ := h1
  obtain ⟨h2a, h2b⟩ := h2
  obtain ⟨h3a, h3b⟩ := h3
  obtain ⟨h4a, h4b⟩ := h4
  obtain ⟨h5a, h5b⟩ := h5
  obtain ⟨h6a, h6b⟩ := h6
  go_enter Try.func41, Try.ntmps41
  go_wp2_with (go_at_call 54; refine (rbit_int _ _ _ (by omega) (by omega) (by omega) (by omega)).mono ?_; rintro e w' ⟨rfl, rfl⟩)
  all_goals (go_ret; exact ⟨rfl, by go_grown⟩)
set_option maxHeartbeats 4000000 in
theorem fld_a (op rd rn rm ra imm cond : Int) (wide : Bool) (f : Nat) (w : World) (hf : f ≤ 300) (h1 : 0 ≤ rd ∧ rd ≤ 12) (h2 : 0 ≤ rn ∧ rn ≤ 12) (h3 : 0 ≤ rm ∧ rm ≤ 12) (h4 : 0 ≤ ra ∧ ra ≤ 32) (h5 : -16777216 ≤ imm ∧ imm ≤ 16777214) (h6 : 0 ≤ cond ∧ cond ≤ 13)  :
    Calls Try.prog 41 #[.agg #[.int .i64 op, .int .i64 rd, .int .i64 rn, .int .i64 rm, .int .i64 ra, .int .i64 imm, .int .i64 cond, .bool wide], .int .u8 97, .int .i64 (f : Int)] w fun e w' => e = .returned (.int .i64 ((Th.rbit ra f : Nat) : Int)) ∧ Below w.heap.size w w' := by
  obtain ⟨h1a, h1b⟩ := h1
  obtain ⟨h2a, h2b⟩ := h2
  obtain ⟨h3a, h3b⟩ := h3
  obtain ⟨h4a, h4b⟩ := h4
  obtain ⟨h5a, h5b⟩ := h5
  obtain ⟨h6a, h6b⟩ := h6
  go_enter Try.func41, Try.ntmps41
  go_wp2_with (go_at_call 54; refine (rbit_int _ _ _ (by omega) (by omega) (by omega) (by omega)).mono ?_; rintro e w' ⟨rfl, rfl⟩)
  all_goals (go_ret; exact ⟨rfl, by go_grown⟩)
set_option maxHeartbeats 4000000 in
theorem fld_c (op rd rn rm ra imm cond : Int) (wide : Bool) (f : Nat) (w : World) (hf : f ≤ 300) (h1 : 0 ≤ rd ∧ rd ≤ 12) (h2 : 0 ≤ rn ∧ rn ≤ 12) (h3 : 0 ≤ rm ∧ rm ≤ 12) (h4 : 0 ≤ ra ∧ ra ≤ 32) (h5 : -16777216 ≤ imm ∧ imm ≤ 16777214) (h6 : 0 ≤ cond ∧ cond ≤ 13)  :
    Calls Try.prog 41 #[.agg #[.int .i64 op, .int .i64 rd, .int .i64 rn, .int .i64 rm, .int .i64 ra, .int .i64 imm, .int .i64 cond, .bool wide], .int .u8 99, .int .i64 (f : Int)] w fun e w' => e = .returned (.int .i64 ((Th.rbit cond f : Nat) : Int)) ∧ Below w.heap.size w w' := by
  obtain ⟨h1a, h1b⟩ := h1
  obtain ⟨h2a, h2b⟩ := h2
  obtain ⟨h3a, h3b⟩ := h3
  obtain ⟨h4a, h4b⟩ := h4
  obtain ⟨h5a, h5b⟩ := h5
  obtain ⟨h6a, h6b⟩ := h6
  go_enter Try.func41, Try.ntmps41
  go_wp2_with (go_at_call 54; refine (rbit_int _ _ _ (by omega) (by omega) (by omega) (by omega)).mono ?_; rintro e w' ⟨rfl, rfl⟩)
  all_goals (go_ret; exact ⟨rfl, by go_grown⟩)
set_option maxHeartbeats 4000000 in
theorem fld_w (op rd rn rm ra imm cond : Int) (wide : Bool) (f : Nat) (w : World) (hf : f ≤ 300) (h1 : 0 ≤ rd ∧ rd ≤ 12) (h2 : 0 ≤ rn ∧ rn ≤ 12) (h3 : 0 ≤ rm ∧ rm ≤ 12) (h4 : 0 ≤ ra ∧ ra ≤ 32) (h5 : -16777216 ≤ imm ∧ imm ≤ 16777214) (h6 : 0 ≤ cond ∧ cond ≤ 13) (h7 : 1 ≤ imm + ra) :
    Calls Try.prog 41 #[.agg #[.int .i64 op, .int .i64 rd, .int .i64 rn, .int .i64 rm, .int .i64 ra, .int .i64 imm, .int .i64 cond, .bool wide], .int .u8 119, .int .i64 (f : Int)] w fun e w' => e = .returned (.int .i64 ((Th.rbit (imm + ra - 1) f : Nat) : Int)) ∧ Below w.heap.size w w' := by
  obtain ⟨h1a, h1b⟩ := h1
  obtain ⟨h2a, h2b⟩ := h2
  obtain ⟨h3a, h3b⟩ := h3
  obtain ⟨h4a, h4b⟩ := h4
  obtain ⟨h5a, h5b⟩ := h5
  obtain ⟨h6a, h6b⟩ := h6
  go_enter Try.func41, Try.ntmps41
  go_wp2_with (go_at_call 54; refine (rbit_int _ _ _ (by omega) (by omega) (by omega) (by omega)).mono ?_; rintro e w' ⟨rfl, rfl⟩)
  all_goals (go_ret; exact ⟨rfl, by go_grown⟩)
set_option maxHeartbeats 4000000 in
theorem fld_x (op rd rn rm ra imm cond : Int) (wide : Bool) (f : Nat) (w : World) (hf : f ≤ 300) (h1 : 0 ≤ rd ∧ rd ≤ 12) (h2 : 0 ≤ rn ∧ rn ≤ 12) (h3 : 0 ≤ rm ∧ rm ≤ 12) (h4 : 0 ≤ ra ∧ ra ≤ 32) (h5 : -16777216 ≤ imm ∧ imm ≤ 16777214) (h6 : 0 ≤ cond ∧ cond ≤ 13)  :
    Calls Try.prog 41 #[.agg #[.int .i64 op, .int .i64 rd, .int .i64 rn, .int .i64 rm, .int .i64 ra, .int .i64 imm, .int .i64 cond, .bool wide], .int .u8 120, .int .i64 (f : Int)] w fun e w' => e = .returned (.int .i64 ((1 - (Th.rbit (Th.off imm) 23 + Th.rbit (Th.off imm) 24) % 2 : Nat) : Int)) ∧ Below w.heap.size w w' := by
  obtain ⟨h1a, h1b⟩ := h1
  obtain ⟨h2a, h2b⟩ := h2
  obtain ⟨h3a, h3b⟩ := h3
  obtain ⟨h4a, h4b⟩ := h4
  obtain ⟨h5a, h5b⟩ := h5
  obtain ⟨h6a, h6b⟩ := h6
  by_cases hs : imm < 0
  · have ho := Lib.hid (show Th.off imm = imm + 33554432 from if_pos hs)
    have b1 := rbit_lt (imm + 33554432) 23
    have b2 := rbit_lt (imm + 33554432) 24
    go_enter Try.func41, Try.ntmps41
    go_wp2_with (go_at_call 54; refine (rbit_int _ _ _ (by omega) (by omega) (by omega) (by omega)).mono ?_; rintro e w' ⟨rfl, rfl⟩)
    go_ret
    refine ⟨ret_int ?_, by go_grown⟩
    rw [ho.out]
    omega
  · have ho := Lib.hid (show Th.off imm = imm from if_neg hs)
    have b1 := rbit_lt imm 23
    have b2 := rbit_lt imm 24
    go_enter Try.func41, Try.ntmps41
    go_wp2_with (go_at_call 54; refine (rbit_int _ _ _ (by omega) (by omega) (by omega) (by omega)).mono ?_; rintro e w' ⟨rfl, rfl⟩)
    go_ret
    refine ⟨ret_int ?_, by go_grown⟩
    rw [ho.out]
    omega
set_option maxHeartbeats 4000000 in
theorem fld_y (op rd rn rm ra imm cond : Int) (wide : Bool) (f : Nat) (w : World) (hf : f ≤ 300) (h1 : 0 ≤ rd ∧ rd ≤ 12) (h2 : 0 ≤ rn ∧ rn ≤ 12) (h3 : 0 ≤ rm ∧ rm ≤ 12) (h4 : 0 ≤ ra ∧ ra ≤ 32) (h5 : -16777216 ≤ imm ∧ imm ≤ 16777214) (h6 : 0 ≤ cond ∧ cond ≤ 13)  :
    Calls Try.prog 41 #[.agg #[.int .i64 op, .int .i64 rd, .int .i64 rn, .int .i64 rm, .int .i64 ra, .int .i64 imm, .int .i64 cond, .bool wide], .int .u8 121, .int .i64 (f : Int)] w fun e w' => e = .returned (.int .i64 ((1 - (Th.rbit (Th.off imm) 22 + Th.rbit (Th.off imm) 24) % 2 : Nat) : Int)) ∧ Below w.heap.size w w' := by
  obtain ⟨h1a, h1b⟩ := h1
  obtain ⟨h2a, h2b⟩ := h2
  obtain ⟨h3a, h3b⟩ := h3
  obtain ⟨h4a, h4b⟩ := h4
  obtain ⟨h5a, h5b⟩ := h5
  obtain ⟨h6a, h6b⟩ := h6
  by_cases hs : imm < 0
  · have ho := Lib.hid (show Th.off imm = imm + 33554432 from if_pos hs)
    have b1 := rbit_lt (imm + 33554432) 22
    have b2 := rbit_lt (imm + 33554432) 24
    go_enter Try.func41, Try.ntmps41
    go_wp2_with (go_at_call 54; refine (rbit_int _ _ _ (by omega) (by omega) (by omega) (by omega)).mono ?_; rintro e w' ⟨rfl, rfl⟩)
    go_ret
    refine ⟨ret_int ?_, by go_grown⟩
    rw [ho.out]
    omega
  · have ho := Lib.hid (show Th.off imm = imm from if_neg hs)
    have b1 := rbit_lt imm 22
    have b2 := rbit_lt imm 24
    go_enter Try.func41, Try.ntmps41
    go_wp2_with (go_at_call 54; refine (rbit_int _ _ _ (by omega) (by omega) (by omega) (by omega)).mono ?_; rintro e w' ⟨rfl, rfl⟩)
    go_ret
    refine ⟨ret_int ?_, by go_grown⟩
    rw [ho.out]
    omega
set_option maxHeartbeats 4000000 in
theorem fld_up (op rd rn rm ra imm cond : Int) (wide : Bool) (f : Nat) (w : World) (hf : f ≤ 300) (h1 : 0 ≤ rd ∧ rd ≤ 12) (h2 : 0 ≤ rn ∧ rn ≤ 12) (h3 : 0 ≤ rm ∧ rm ≤ 12) (h4 : 0 ≤ ra ∧ ra ≤ 32) (h5 : -16777216 ≤ imm ∧ imm ≤ 16777214) (h6 : 0 ≤ cond ∧ cond ≤ 13) (z : Nat) (z0 : 65 ≤ z) (z1 : z ≤ 90) :
    Calls Try.prog 41 #[.agg #[.int .i64 op, .int .i64 rd, .int .i64 rn, .int .i64 rm, .int .i64 ra, .int .i64 imm, .int .i64 cond, .bool wide], .int .u8 (z : Int), .int .i64 (f : Int)] w fun e w' => e = .returned (.int .i64 ((Th.rbit (Th.off imm) (z - 65) : Nat) : Int)) ∧ Below w.heap.size w w' := by
  obtain ⟨h1a, h1b⟩ := h1
  obtain ⟨h2a, h2b⟩ := h2
  obtain ⟨h3a, h3b⟩ := h3
  obtain ⟨h4a, h4b⟩ := h4
  obtain ⟨h5a, h5b⟩ := h5
  obtain ⟨h6a, h6b⟩ := h6
  have n1 : ((z : Int) == 48) = false := by rw [beq_eq_false_iff_ne]; omega
  have n49 : ((z : Int) == 49) = false := by rw [beq_eq_false_iff_ne]; omega
  have n100 : ((z : Int) == 100) = false := by rw [beq_eq_false_iff_ne]; omega
  have n110 : ((z : Int) == 110) = false := by rw [beq_eq_false_iff_ne]; omega
  have n109 : ((z : Int) == 109) = false := by rw [beq_eq_false_iff_ne]; omega
  have n97 : ((z : Int) == 97) = false := by rw [beq_eq_false_iff_ne]; omega
  have n99 : ((z : Int) == 99) = false := by rw [beq_eq_false_iff_ne]; omega
  have n119 : ((z : Int) == 119) = false := by rw [beq_eq_false_iff_ne]; omega
  have n120 : ((z : Int) == 120) = false := by rw [beq_eq_false_iff_ne]; omega
  have n121 : ((z : Int) == 121) = false := by rw [beq_eq_false_iff_ne]; omega
  by_cases hs : imm < 0
  · have ho := Lib.hid (show Th.off imm = imm + 33554432 from if_pos hs)
    go_enter Try.func41, Try.ntmps41
    go_wp2_with (go_at_call 54; refine (rbit_int _ _ _ (by omega) (by omega) (by omega) (by omega)).mono ?_; rintro e w' ⟨rfl, rfl⟩)
    go_ret
    refine ⟨ret_int ?_, by go_grown⟩
    rw [ho.out, show ((z : Int) - 65).toNat = z - 65 by omega]
  · have ho := Lib.hid (show Th.off imm = imm from if_neg hs)
    go_enter Try.func41, Try.ntmps41
    go_wp2_with (go_at_call 54; refine (rbit_int _ _ _ (by omega) (by omega) (by omega) (by omega)).mono ?_; rintro e w' ⟨rfl, rfl⟩)
    go_ret
    refine ⟨ret_int ?_, by go_grown⟩
    rw [ho.out, show ((z : Int) - 65).toNat = z - 65 by omega]
def Letter (c : UInt8) : Prop := c = 48 ∨ c = 49 ∨ c = 100 ∨ c = 110 ∨ c = 109 ∨ c = 97 ∨ c = 99 ∨ c = 119 ∨ c = 120 ∨ c = 121 ∨ (65 ≤ c.toNat ∧ c.toNat ≤ 90)
theorem rfield_any (op rd rn rm ra imm cond : Int) (wide : Bool) (c : UInt8) (f : Nat) (w : World) (hf : f ≤ 300) (h1 : 0 ≤ rd ∧ rd ≤ 12) (h2 : 0 ≤ rn ∧ rn ≤ 12) (h3 : 0 ≤ rm ∧ rm ≤ 12) (h4 : 0 ≤ ra ∧ ra ≤ 32) (h5 : -16777216 ≤ imm ∧ imm ≤ 16777214) (h6 : 0 ≤ cond ∧ cond ≤ 13) (h7 : c = 119 → 1 ≤ imm + ra) (h8 : Letter c) :
    Calls Try.prog 41 #[.agg #[.int .i64 op, .int .i64 rd, .int .i64 rn, .int .i64 rm, .int .i64 ra, .int .i64 imm, .int .i64 cond, .bool wide], .int .u8 (c.toNat : Int), .int .i64 (f : Int)] w fun e w' => e = .returned (.int .i64 (Th.rfield ⟨op, rd, rn, rm, ra, imm, cond, wide⟩ c f : Int)) ∧ Below w.heap.size w w' := by
  rcases h8 with rfl | rfl | rfl | rfl | rfl | rfl | rfl | rfl | rfl | rfl | ⟨z0, z1⟩
  · exact fld_0 _ _ _ _ _ _ _ _ f w hf h1 h2 h3 h4 h5 h6
  · exact fld_1 _ _ _ _ _ _ _ _ f w hf h1 h2 h3 h4 h5 h6
  · exact fld_d _ _ _ _ _ _ _ _ f w hf h1 h2 h3 h4 h5 h6
  · exact fld_n _ _ _ _ _ _ _ _ f w hf h1 h2 h3 h4 h5 h6
  · exact fld_m _ _ _ _ _ _ _ _ f w hf h1 h2 h3 h4 h5 h6
  · exact fld_a _ _ _ _ _ _ _ _ f w hf h1 h2 h3 h4 h5 h6
  · exact fld_c _ _ _ _ _ _ _ _ f w hf h1 h2 h3 h4 h5 h6
  · exact fld_w _ _ _ _ _ _ _ _ f w hf h1 h2 h3 h4 h5 h6 (h7 rfl)
  · exact fld_x _ _ _ _ _ _ _ _ f w hf h1 h2 h3 h4 h5 h6
  · exact fld_y _ _ _ _ _ _ _ _ f w hf h1 h2 h3 h4 h5 h6
  · have q : ∀ d : UInt8, d.toNat < 65 ∨ 90 < d.toNat → (c == d) = false := fun d hd => by
      rw [beq_eq_false_iff_ne]; rintro rfl; omega
    have e : Th.rfield ⟨op, rd, rn, rm, ra, imm, cond, wide⟩ c f = Th.rbit (Th.off imm) (c.toNat - 65) := by
      unfold Th.rfield
      rw [q 48 (by decide), q 49 (by decide), q 100 (by decide), q 110 (by decide), q 109 (by decide), q 97 (by decide), q 99 (by decide), q 119 (by decide), q 120 (by decide), q 121 (by decide)]
      rfl
    rw [e]
    exact fld_up _ _ _ _ _ _ _ _ f w hf h1 h2 h3 h4 h5 h6 c.toNat z0 z1

end Go.Proofs.Ytcajllbhgfaofaa
