/-
What the document's own bit and field of thumb return.
What the document's own Encode of thumb returns.
What the document's own Encode of thumb returns is what the program's does.
-/
import Derived.Test.YtplfpaffjaldoaaThumbM
import Derived.Test.YtplfpaffjaldoaaThumbT
import Derived.Test.YtplfpaffjaldoaaThumbE
import Derived.LoopN
import Derived.IntWalk
import Derived.LoopTactic
import Derived.Deep.LoopGhost
import Derived.Deep.RegionHeld3
section
namespace Go.Proofs.Ytplfpaffjaldoaa
open Go.ChangeShapes Go.WideShapes Go.ChangeAt Go.RowKit

set_option linter.unusedVariables false
theorem half_step (X k : Nat) : X / 2 ^ k / 2 = X / 2 ^ (k + 1) := by rw [Nat.pow_succ, Nat.div_div_eq_div_mul]
set_option maxHeartbeats 1000000 in
theorem rbit_any (x : Int) (n : Nat) (w : World) (h0 : 0 ≤ x) (h1 : x < 9223372036854775808) (hn : n ≤ 300) :
    Calls Try.prog 66 #[.int .i64 x, .int .i64 (n : Int)] w fun e w' => e = .returned (.int .i64 (Th.rbit x n : Int)) ∧ w = w' := by
  obtain ⟨X, rfl⟩ := Int.eq_ofNat_of_zero_le h0
  have e0 : IntKind.u64.wrap (X : Int) = (X : Int) := Wd.u64_wrap _ (by omega) (by omega)
  go_enter Try.func66, Try.ntmps66
  go_wp2
  go_loop [5, 6] (fun u i => ∃ k : Nat, k ≤ n ∧ i = .int .i64 k ∧ u = .int .u64 ((X / 2 ^ k : Nat) : Int)) (fun _ i => n - (intOf i).toNat)
  case atStart => exact ⟨0, Nat.zero_le _, rfl, by simp⟩
  case round =>
    obtain ⟨k, hk, rfl, rfl⟩ := hrel
    have hb : X / 2 ^ k ≤ X := Nat.div_le_self _ _
    have HS := Lib.hid (half_step X k)
    generalize hY : X / 2 ^ k = Y at *
    have HY := Lib.hid hY
    clear hY
    by_cases hlt : k < n
    · go_wp2
      go_round
      case rel => exact ⟨k + 1, by omega, by go_num, by rw [← HS.out]; go_num⟩
      case measure => simp [intOf]; omega
    · go_wp2
      go_ret
      have ek : k = n := by omega
      exact ⟨ret_int (by unfold Th.rbit; rw [Int.toNat_natCast, ← ek, HY.out]; rfl), rfl⟩
theorem rbit_int (x n : Int) (w : World) (h0 : 0 ≤ x) (h1 : x < 9223372036854775808) (hn0 : 0 ≤ n) (hn : n ≤ 300) :
    Calls Try.prog 66 #[.int .i64 x, .int .i64 n] w fun e w' => e = .returned (.int .i64 (Th.rbit x n.toNat : Int)) ∧ w = w' := by
  obtain ⟨m, rfl⟩ := Int.eq_ofNat_of_zero_le hn0
  exact rbit_any x m w h0 h1 (by omega)
theorem rbit_lt (x : Int) (n : Nat) : Th.rbit x n < 2 := Nat.mod_lt _ (by decide)
set_option maxHeartbeats 4000000 in
theorem fld_0 (op rd rn rm ra imm cond : Int) (wide : Bool) (f : Nat) (w : World) (hf : f ≤ 300) (h1 : 0 ≤ rd ∧ rd ≤ 12) (h2 : 0 ≤ rn ∧ rn ≤ 12) (h3 : 0 ≤ rm ∧ rm ≤ 12) (h4 : 0 ≤ ra ∧ ra ≤ 32) (h5 : -16777216 ≤ imm ∧ imm ≤ 16777214) (h6 : 0 ≤ cond ∧ cond ≤ 13)  :
    Calls Try.prog 46 #[.agg #[.int .i64 op, .int .i64 rd, .int .i64 rn, .int .i64 rm, .int .i64 ra, .int .i64 imm, .int .i64 cond, .bool wide], .int .u8 48, .int .i64 (f : Int)] w fun e w' => e = .returned (.int .i64 (0 : Int)) ∧ Below w.heap.size w w' := by
  obtain ⟨h1a, h1b⟩ := h1
  obtain ⟨h2a, h2b⟩ := h2
  obtain ⟨h3a, h3b⟩ := h3
  obtain ⟨h4a, h4b⟩ := h4
  obtain ⟨h5a, h5b⟩ := h5
  obtain ⟨h6a, h6b⟩ := h6
  go_enter Try.func46, Try.ntmps46
  go_wp2
  all_goals (go_ret; exact ⟨rfl, by go_grown⟩)
set_option maxHeartbeats 4000000 in
theorem fld_1 (op rd rn rm ra imm cond : Int) (wide : Bool) (f : Nat) (w : World) (hf : f ≤ 300) (h1 : 0 ≤ rd ∧ rd ≤ 12) (h2 : 0 ≤ rn ∧ rn ≤ 12) (h3 : 0 ≤ rm ∧ rm ≤ 12) (h4 : 0 ≤ ra ∧ ra ≤ 32) (h5 : -16777216 ≤ imm ∧ imm ≤ 16777214) (h6 : 0 ≤ cond ∧ cond ≤ 13)  :
    Calls Try.prog 46 #[.agg #[.int .i64 op, .int .i64 rd, .int .i64 rn, .int .i64 rm, .int .i64 ra, .int .i64 imm, .int .i64 cond, .bool wide], .int .u8 49, .int .i64 (f : Int)] w fun e w' => e = .returned (.int .i64 (1 : Int)) ∧ Below w.heap.size w w' := by
  obtain ⟨h1a, h1b⟩ := h1
  obtain ⟨h2a, h2b⟩ := h2
  obtain ⟨h3a, h3b⟩ := h3
  obtain ⟨h4a, h4b⟩ := h4
  obtain ⟨h5a, h5b⟩ := h5
  obtain ⟨h6a, h6b⟩ := h6
  go_enter Try.func46, Try.ntmps46
  go_wp2
  all_goals (go_ret; exact ⟨rfl, by go_grown⟩)
set_option maxHeartbeats 4000000 in
theorem fld_d (op rd rn rm ra imm cond : Int) (wide : Bool) (f : Nat) (w : World) (hf : f ≤ 300) (h1 : 0 ≤ rd ∧ rd ≤ 12) (h2 : 0 ≤ rn ∧ rn ≤ 12) (h3 : 0 ≤ rm ∧ rm ≤ 12) (h4 : 0 ≤ ra ∧ ra ≤ 32) (h5 : -16777216 ≤ imm ∧ imm ≤ 16777214) (h6 : 0 ≤ cond ∧ cond ≤ 13)  :
    Calls Try.prog 46 #[.agg #[.int .i64 op, .int .i64 rd, .int .i64 rn, .int .i64 rm, .int .i64 ra, .int .i64 imm, .int .i64 cond, .bool wide], .int .u8 100, .int .i64 (f : Int)] w fun e w' => e = .returned (.int .i64 ((Th.rbit rd f : Nat) : Int)) ∧ Below w.heap.size w w' := by
  obtain ⟨h1a, h1b⟩ := h1
  obtain ⟨h2a, h2b⟩ := h2
  obtain ⟨h3a, h3b⟩ := h3
  obtain ⟨h4a, h4b⟩ := h4
  obtain ⟨h5a, h5b⟩ := h5
  obtain ⟨h6a, h6b⟩ := h6
  go_enter Try.func46, Try.ntmps46
  go_wp2_with (go_at_call 66; refine (rbit_int _ _ _ (by omega) (by omega) (by omega) (by omega)).mono ?_; rintro e w' ⟨rfl, rfl⟩)
  all_goals (go_ret; exact ⟨rfl, by go_grown⟩)
set_option maxHeartbeats 4000000 in
theorem fld_n (op rd rn rm ra imm cond : Int) (wide : Bool) (f : Nat) (w : World) (hf : f ≤ 300) (h1 : 0 ≤ rd ∧ rd ≤ 12) (h2 : 0 ≤ rn ∧ rn ≤ 12) (h3 : 0 ≤ rm ∧ rm ≤ 12) (h4 : 0 ≤ ra ∧ ra ≤ 32) (h5 : -16777216 ≤ imm ∧ imm ≤ 16777214) (h6 : 0 ≤ cond ∧ cond ≤ 13)  :
    Calls Try.prog 46 #[.agg #[.int .i64 op, .int .i64 rd, .int .i64 rn, .int .i64 rm, .int .i64 ra, .int .i64 imm, .int .i64 cond, .bool wide], .int .u8 110, .int .i64 (f : Int)] w fun e w' => e = .returned (.int .i64 ((Th.rbit rn f : Nat) : Int)) ∧ Below w.heap.size w w' := by
  obtain ⟨h1a, h1b⟩ := h1
  obtain ⟨h2a, h2b⟩ := h2
  obtain ⟨h3a, h3b⟩ := h3
  obtain ⟨h4a, h4b⟩ := h4
  obtain ⟨h5a, h5b⟩ := h5
  obtain ⟨h6a, h6b⟩ := h6
  go_enter Try.func46, Try.ntmps46
  go_wp2_with (go_at_call 66; refine (rbit_int _ _ _ (by omega) (by omega) (by omega) (by omega)).mono ?_; rintro e w' ⟨rfl, rfl⟩)
  all_goals (go_ret; exact ⟨rfl, by go_grown⟩)
set_option maxHeartbeats 4000000 in
theorem fld_m (op rd rn rm ra imm cond : Int) (wide : Bool) (f : Nat) (w : World) (hf : f ≤ 300) (h1 : 0 ≤ rd ∧ rd ≤ 12) (h2 : 0 ≤ rn ∧ rn ≤ 12) (h3 : 0 ≤ rm ∧ rm ≤ 12) (h4 : 0 ≤ ra ∧ ra ≤ 32) (h5 : -16777216 ≤ imm ∧ imm ≤ 16777214) (h6 : 0 ≤ cond ∧ cond ≤ 13)  :
    Calls Try.prog 46 #[.agg #[.int .i64 op, .int .i64 rd, .int .i64 rn, .int .i64 rm, .int .i64 ra, .int .i64 imm, .int .i64 cond, .bool wide], .int .u8 109, .int .i64 (f : Int)] w fun e w' => e = .returned (.int .i64 ((Th.rbit rm f : Nat) : Int)) ∧ Below w.heap.size w w' := by
  obtain ⟨h1a, h1b⟩ := h1
  obtain ⟨h2a, h2b⟩ := h2
  obtain ⟨h3a, h3b⟩ := h3
  obtain ⟨h4a, h4b⟩ := h4
  obtain ⟨h5a, h5b⟩ := h5
  obtain ⟨h6a, h6b⟩ := h6
  go_enter Try.func46, Try.ntmps46
  go_wp2_with (go_at_call 66; refine (rbit_int _ _ _ (by omega) (by omega) (by omega) (by omega)).mono ?_; rintro e w' ⟨rfl, rfl⟩)
  all_goals (go_ret; exact ⟨rfl, by go_grown⟩)
set_option maxHeartbeats 4000000 in
theorem fld_a (op rd rn rm ra imm cond : Int) (wide : Bool) (f : Nat) (w : World) (hf : f ≤ 300) (h1 : 0 ≤ rd ∧ rd ≤ 12) (h2 : 0 ≤ rn ∧ rn ≤ 12) (h3 : 0 ≤ rm ∧ rm ≤ 12) (h4 : 0 ≤ ra ∧ ra ≤ 32) (h5 : -16777216 ≤ imm ∧ imm ≤ 16777214) (h6 : 0 ≤ cond ∧ cond ≤ 13)  :
    Calls Try.prog 46 #[.agg #[.int .i64 op, .int .i64 rd, .int .i64 rn, .int .i64 rm, .int .i64 ra, .int .i64 imm, .int .i64 cond, .bool wide], .int .u8 97, .int .i64 (f : Int)] w fun e w' => e = .returned (.int .i64 ((Th.rbit ra f : Nat) : Int)) ∧ Below w.heap.size w w' := by
  obtain ⟨h1a, h1b⟩ := h1
  obtain ⟨h2a, h2b⟩ := h2
  obtain ⟨h3a, h3b⟩ := h3
  obtain ⟨h4a, h4b⟩ := h4
  obtain ⟨h5a, h5b⟩ := h5
  obtain ⟨h6a, h6b⟩ := h6
  go_enter Try.func46, Try.ntmps46
  go_wp2_with (go_at_call 66; refine (rbit_int _ _ _ (by omega) (by omega) (by omega) (by omega)).mono ?_; rintro e w' ⟨rfl, rfl⟩)
  all_goals (go_ret; exact ⟨rfl, by go_grown⟩)
set_option maxHeartbeats 4000000 in
theorem fld_c (op rd rn rm ra imm cond : Int) (wide : Bool) (f : Nat) (w : World) (hf : f ≤ 300) (h1 : 0 ≤ rd ∧ rd ≤ 12) (h2 : 0 ≤ rn ∧ rn ≤ 12) (h3 : 0 ≤ rm ∧ rm ≤ 12) (h4 : 0 ≤ ra ∧ ra ≤ 32) (h5 : -16777216 ≤ imm ∧ imm ≤ 16777214) (h6 : 0 ≤ cond ∧ cond ≤ 13)  :
    Calls Try.prog 46 #[.agg #[.int .i64 op, .int .i64 rd, .int .i64 rn, .int .i64 rm, .int .i64 ra, .int .i64 imm, .int .i64 cond, .bool wide], .int .u8 99, .int .i64 (f : Int)] w fun e w' => e = .returned (.int .i64 ((Th.rbit cond f : Nat) : Int)) ∧ Below w.heap.size w w' := by
  obtain ⟨h1a, h1b⟩ := h1
  obtain ⟨h2a, h2b⟩ := h2
  obtain ⟨h3a, h3b⟩ := h3
  obtain ⟨h4a, h4b⟩ := h4
  obtain ⟨h5a, h5b⟩ := h5
  obtain ⟨h6a, h6b⟩ := h6
  go_enter Try.func46, Try.ntmps46
  go_wp2_with (go_at_call 66; refine (rbit_int _ _ _ (by omega) (by omega) (by omega) (by omega)).mono ?_; rintro e w' ⟨rfl, rfl⟩)
  all_goals (go_ret; exact ⟨rfl, by go_grown⟩)
set_option maxHeartbeats 4000000 in
theorem fld_w (op rd rn rm ra imm cond : Int) (wide : Bool) (f : Nat) (w : World) (hf : f ≤ 300) (h1 : 0 ≤ rd ∧ rd ≤ 12) (h2 : 0 ≤ rn ∧ rn ≤ 12) (h3 : 0 ≤ rm ∧ rm ≤ 12) (h4 : 0 ≤ ra ∧ ra ≤ 32) (h5 : -16777216 ≤ imm ∧ imm ≤ 16777214) (h6 : 0 ≤ cond ∧ cond ≤ 13) (h7 : 1 ≤ imm + ra) :
    Calls Try.prog 46 #[.agg #[.int .i64 op, .int .i64 rd, .int .i64 rn, .int .i64 rm, .int .i64 ra, .int .i64 imm, .int .i64 cond, .bool wide], .int .u8 119, .int .i64 (f : Int)] w fun e w' => e = .returned (.int .i64 ((Th.rbit (imm + ra - 1) f : Nat) : Int)) ∧ Below w.heap.size w w' := by
  obtain ⟨h1a, h1b⟩ := h1
  obtain ⟨h2a, h2b⟩ := h2
  obtain ⟨h3a, h3b⟩ := h3
  obtain ⟨h4a, h4b⟩ := h4
  obtain ⟨h5a, h5b⟩ := h5
  obtain ⟨h6a, h6b⟩ := h6
  go_enter Try.func46, Try.ntmps46
  go_wp2_with (go_at_call 66; refine (rbit_int _ _ _ (by omega) (by omega) (by omega) (by omega)).mono ?_; rintro e w' ⟨rfl, rfl⟩)
  all_goals (go_ret; exact ⟨rfl, by go_grown⟩)
set_option maxHeartbeats 4000000 in
theorem fld_x (op rd rn rm ra imm cond : Int) (wide : Bool) (f : Nat) (w : World) (hf : f ≤ 300) (h1 : 0 ≤ rd ∧ rd ≤ 12) (h2 : 0 ≤ rn ∧ rn ≤ 12) (h3 : 0 ≤ rm ∧ rm ≤ 12) (h4 : 0 ≤ ra ∧ ra ≤ 32) (h5 : -16777216 ≤ imm ∧ imm ≤ 16777214) (h6 : 0 ≤ cond ∧ cond ≤ 13)  :
    Calls Try.prog 46 #[.agg #[.int .i64 op, .int .i64 rd, .int .i64 rn, .int .i64 rm, .int .i64 ra, .int .i64 imm, .int .i64 cond, .bool wide], .int .u8 120, .int .i64 (f : Int)] w fun e w' => e = .returned (.int .i64 ((1 - (Th.rbit (Th.off imm) 23 + Th.rbit (Th.off imm) 24) % 2 : Nat) : Int)) ∧ Below w.heap.size w w' := by
  obtain ⟨h1a, h1b⟩ := h1
  obtain ⟨h2a, h2b⟩ := h2
  obtain ⟨h3a, h3b⟩ := h3
  obtain ⟨h4a, h4b⟩ := h4
  obtain ⟨h5a, h5b⟩ := h5
  obtain ⟨h6a, h6b⟩ := h6
  by_cases hs : imm < 0
  · have ho := Lib.hid (show Th.off imm = imm + 33554432 from if_pos hs)
    have b1 := rbit_lt (imm + 33554432) 23
    have b2 := rbit_lt (imm + 33554432) 24
    go_enter Try.func46, Try.ntmps46
    go_wp2_with (go_at_call 66; refine (rbit_int _ _ _ (by omega) (by omega) (by omega) (by omega)).mono ?_; rintro e w' ⟨rfl, rfl⟩)
    go_ret
    refine ⟨ret_int ?_, by go_grown⟩
    rw [ho.out]
    omega
  · have ho := Lib.hid (show Th.off imm = imm from if_neg hs)
    have b1 := rbit_lt imm 23
    have b2 := rbit_lt imm 24
    go_enter Try.func46, Try.ntmps46
    go_wp2_with (go_at_call 66; refine (rbit_int _ _ _ (by omega) (by omega) (by omega) (by omega)).mono ?_; rintro e w' ⟨rfl, rfl⟩)
    go_ret
    refine ⟨ret_int ?_, by go_grown⟩
    rw [ho.out]
    omega
set_option maxHeartbeats 4000000 in
theorem fld_y (op rd rn rm ra imm cond : Int) (wide : Bool) (f : Nat) (w : World) (hf : f ≤ 300) (h1 : 0 ≤ rd ∧ rd ≤ 12) (h2 : 0 ≤ rn ∧ rn ≤ 12) (h3 : 0 ≤ rm ∧ rm ≤ 12) (h4 : 0 ≤ ra ∧ ra ≤ 32) (h5 : -16777216 ≤ imm ∧ imm ≤ 16777214) (h6 : 0 ≤ cond ∧ cond ≤ 13)  :
    Calls Try.prog 46 #[.agg #[.int .i64 op, .int .i64 rd, .int .i64 rn, .int .i64 rm, .int .i64 ra, .int .i64 imm, .int .i64 cond, .bool wide], .int .u8 121, .int .i64 (f : Int)] w fun e w' => e = .returned (.int .i64 ((1 - (Th.rbit (Th.off imm) 22 + Th.rbit (Th.off imm) 24) % 2 : Nat) : Int)) ∧ Below w.heap.size w w' := by
  obtain ⟨h1a, h1b⟩ := h1
  obtain ⟨h2a, h2b⟩ := h2
  obtain ⟨h3a, h3b⟩ := h3
  obtain ⟨h4a, h4b⟩ := h4
  obtain ⟨h5a, h5b⟩ := h5
  obtain ⟨h6a, h6b⟩ := h6
  by_cases hs : imm < 0
  · have ho := Lib.hid (show Th.off imm = imm + 33554432 from if_pos hs)
    have b1 := rbit_lt (imm + 33554432) 22
    have b2 := rbit_lt (imm + 33554432) 24
    go_enter Try.func46, Try.ntmps46
    go_wp2_with (go_at_call 66; refine (rbit_int _ _ _ (by omega) (by omega) (by omega) (by omega)).mono ?_; rintro e w' ⟨rfl, rfl⟩)
    go_ret
    refine ⟨ret_int ?_, by go_grown⟩
    rw [ho.out]
    omega
  · have ho := Lib.hid (show Th.off imm = imm from if_neg hs)
    have b1 := rbit_lt imm 22
    have b2 := rbit_lt imm 24
    go_enter Try.func46, Try.ntmps46
    go_wp2_with (go_at_call 66; refine (rbit_int _ _ _ (by omega) (by omega) (by omega) (by omega)).mono ?_; rintro e w' ⟨rfl, rfl⟩)
    go_ret
    refine ⟨ret_int ?_, by go_grown⟩
    rw [ho.out]
    omega
set_option maxHeartbeats 4000000 in
theorem fld_up (op rd rn rm ra imm cond : Int) (wide : Bool) (f : Nat) (w : World) (hf : f ≤ 300) (h1 : 0 ≤ rd ∧ rd ≤ 12) (h2 : 0 ≤ rn ∧ rn ≤ 12) (h3 : 0 ≤ rm ∧ rm ≤ 12) (h4 : 0 ≤ ra ∧ ra ≤ 32) (h5 : -16777216 ≤ imm ∧ imm ≤ 16777214) (h6 : 0 ≤ cond ∧ cond ≤ 13) (z : Nat) (z0 : 65 ≤ z) (z1 : z ≤ 90) :
    Calls Try.prog 46 #[.agg #[.int .i64 op, .int .i64 rd, .int .i64 rn, .int .i64 rm, .int .i64 ra, .int .i64 imm, .int .i64 cond, .bool wide], .int .u8 (z : Int), .int .i64 (f : Int)] w fun e w' => e = .returned (.int .i64 ((Th.rbit (Th.off imm) (z - 65) : Nat) : Int)) ∧ Below w.heap.size w w' := by
  obtain ⟨h1a, h1b⟩ := h1
  obtain ⟨h2a, h2b⟩ := h2
  obtain ⟨h3a, h3b⟩ := h3
  obtain ⟨h4a, h4b⟩ := h4
  obtain ⟨h5a, h5b⟩ := h5
  obtain ⟨h6a, h6b⟩ := h6
  have n1 : ((z : Int) == 48) = false := by rw [beq_eq_false_iff_ne]; omega
  have n49 : ((z : Int) == 49) = false := by rw [beq_eq_false_iff_ne]; omega
  have n100 : ((z : Int) == 100) = false := by rw [beq_eq_false_iff_ne]; omega
  have n110 : ((z : Int) == 110) = false := by rw [beq_eq_false_iff_ne]; omega
  have n109 : ((z : Int) == 109) = false := by rw [beq_eq_false_iff_ne]; omega
  have n97 : ((z : Int) == 97) = false := by rw [beq_eq_false_iff_ne]; omega
  have n99 : ((z : Int) == 99) = false := by rw [beq_eq_false_iff_ne]; omega
  have n119 : ((z : Int) == 119) = false := by rw [beq_eq_false_iff_ne]; omega
  have n120 : ((z : Int) == 120) = false := by rw [beq_eq_false_iff_ne]; omega
  have n121 : ((z : Int) == 121) = false := by rw [beq_eq_false_iff_ne]; omega
  by_cases hs : imm < 0
  · have ho := Lib.hid (show Th.off imm = imm + 33554432 from if_pos hs)
    go_enter Try.func46, Try.ntmps46
    go_wp2_with (go_at_call 66; refine (rbit_int _ _ _ (by omega) (by omega) (by omega) (by omega)).mono ?_; rintro e w' ⟨rfl, rfl⟩)
    go_ret
    refine ⟨ret_int ?_, by go_grown⟩
    rw [ho.out, show ((z : Int) - 65).toNat = z - 65 by omega]
  · have ho := Lib.hid (show Th.off imm = imm from if_neg hs)
    go_enter Try.func46, Try.ntmps46
    go_wp2_with (go_at_call 66; refine (rbit_int _ _ _ (by omega) (by omega) (by omega) (by omega)).mono ?_; rintro e w' ⟨rfl, rfl⟩)
    go_ret
    refine ⟨ret_int ?_, by go_grown⟩
    rw [ho.out, show ((z : Int) - 65).toNat = z - 65 by omega]
def Letter (c : UInt8) : Prop := c = 48 ∨ c = 49 ∨ c = 100 ∨ c = 110 ∨ c = 109 ∨ c = 97 ∨ c = 99 ∨ c = 119 ∨ c = 120 ∨ c = 121 ∨ (65 ≤ c.toNat ∧ c.toNat ≤ 90)
theorem rfield_any (op rd rn rm ra imm cond : Int) (wide : Bool) (c : UInt8) (f : Nat) (w : World) (hf : f ≤ 300) (h1 : 0 ≤ rd ∧ rd ≤ 12) (h2 : 0 ≤ rn ∧ rn ≤ 12) (h3 : 0 ≤ rm ∧ rm ≤ 12) (h4 : 0 ≤ ra ∧ ra ≤ 32) (h5 : -16777216 ≤ imm ∧ imm ≤ 16777214) (h6 : 0 ≤ cond ∧ cond ≤ 13) (h7 : c = 119 → 1 ≤ imm + ra) (h8 : Letter c) :
    Calls Try.prog 46 #[.agg #[.int .i64 op, .int .i64 rd, .int .i64 rn, .int .i64 rm, .int .i64 ra, .int .i64 imm, .int .i64 cond, .bool wide], .int .u8 (c.toNat : Int), .int .i64 (f : Int)] w fun e w' => e = .returned (.int .i64 (Th.rfield ⟨op, rd, rn, rm, ra, imm, cond, wide⟩ c f : Int)) ∧ Below w.heap.size w w' := by
  rcases h8 with rfl | rfl | rfl | rfl | rfl | rfl | rfl | rfl | rfl | rfl | ⟨z0, z1⟩
  · exact fld_0 _ _ _ _ _ _ _ _ f w hf h1 h2 h3 h4 h5 h6
  · exact fld_1 _ _ _ _ _ _ _ _ f w hf h1 h2 h3 h4 h5 h6
  · exact fld_d _ _ _ _ _ _ _ _ f w hf h1 h2 h3 h4 h5 h6
  · exact fld_n _ _ _ _ _ _ _ _ f w hf h1 h2 h3 h4 h5 h6
  · exact fld_m _ _ _ _ _ _ _ _ f w hf h1 h2 h3 h4 h5 h6
  · exact fld_a _ _ _ _ _ _ _ _ f w hf h1 h2 h3 h4 h5 h6
  · exact fld_c _ _ _ _ _ _ _ _ f w hf h1 h2 h3 h4 h5 h6
  · exact fld_w _ _ _ _ _ _ _ _ f w hf h1 h2 h3 h4 h5 h6 (h7 rfl)
  · exact fld_x _ _ _ _ _ _ _ _ f w hf h1 h2 h3 h4 h5 h6
  · exact fld_y _ _ _ _ _ _ _ _ f w hf h1 h2 h3 h4 h5 h6
  · have q : ∀ d : UInt8, d.toNat < 65 ∨ 90 < d.toNat → (c == d) = false := fun d hd => by
      rw [beq_eq_false_iff_ne]; rintro rfl; omega
    have e : Th.rfield ⟨op, rd, rn, rm, ra, imm, cond, wide⟩ c f = Th.rbit (Th.off imm) (c.toNat - 65) := by
      unfold Th.rfield
      rw [q 48 (by decide), q 49 (by decide), q 100 (by decide), q 110 (by decide), q 109 (by decide), q 97 (by decide), q 99 (by decide), q 119 (by decide), q 120 (by decide), q 121 (by decide)]
      rfl
    rw [e]
    exact fld_up _ _ _ _ _ _ _ _ f w hf h1 h2 h3 h4 h5 h6 c.toNat z0 z1

end Go.Proofs.Ytplfpaffjaldoaa
end
section
namespace Go.Proofs.Ytplfpaffjaldoaa
open Go.ChangeShapes Go.WideShapes Go.ChangeAt Go.RowKit
set_option linter.unusedVariables false

/-- the letters from j on, up to e -/
def lets (B : ByteArray) (j e : Nat) : List UInt8 := (B.data.toList.take e).drop j
/-- behind the letters up to k the number is N: what the letters left, up to e, make of it is what all make of 0 -/
def KRel (i : Th.Ins) (B : ByteArray) (A k N : Nat) : Prop := Th.rhalf i N (lets B k (A + 16)) = Th.rhalf i 0 (lets B A (A + 16))
/-- the F letters behind letter j are like it -/
def Same (B : ByteArray) (j F : Nat) : Prop := ∀ m, m < F → (B.data.toList)[j + 1 + m]? = (B.data.toList)[j]?
theorem Same.start (B : ByteArray) (j : Nat) : Same B j 0 := fun m h => absurd h (Nat.not_lt_zero m)
theorem Same.more {B : ByteArray} {j F : Nat} (h : Same B j F) (e : (B.data.toList)[j + 1 + F]? = (B.data.toList)[j]?) : Same B j (F + 1) := fun m hm => by
  by_cases hq : m = F
  · subst hq; exact e
  · exact h m (by omega)
theorem same_get {B : ByteArray} {a b : Nat} (ha : a < B.size) (hb : b < B.size) (h : Hid (B[a] = B[b])) : (B.data.toList)[a]? = (B.data.toList)[b]? := by
  rw [has_take B a ha, has_take B b hb, h.out]
theorem KRel.start (i : Th.Ins) (B : ByteArray) (A : Nat) : KRel i B A A 0 := rfl
theorem lets_cons (B : ByteArray) (j e : Nat) (hj : j < e) (he : e ≤ B.size) : lets B j e = B[j] :: lets B (j + 1) e := by
  unfold lets
  have hl : j < (B.data.toList.take e).length := by
    rw [List.length_take]
    have : B.data.toList.length = B.size := by simp
    omega
  rw [List.drop_eq_getElem_cons hl, List.getElem_take]
  congr 1
theorem lets_get (B : ByteArray) (j e m : Nat) : (lets B j e)[m]? = if j + m < e then B.data.toList[j + m]? else none := by
  unfold lets
  rw [List.getElem?_drop, List.getElem?_take]
theorem lets_end (B : ByteArray) (e : Nat) : lets B e e = [] := by
  unfold lets
  exact List.drop_eq_nil_of_le (by rw [List.length_take]; omega)
theorem run_is (c : UInt8) : ∀ (F : Nat) (R : List UInt8), (∀ m, m < F → R[m]? = some c) → ¬ R[F]? = some c → Th.rrun c R = F := by
  intro F
  induction F with
  | zero =>
    intro R _ h
    cases R with
    | nil => rfl
    | cons x R =>
      have : ¬ x = c := fun e => h (by rw [e]; rfl)
      rw [Th.rrun, if_neg (by simpa using this)]
  | succ F ih =>
    intro R h0 h
    cases R with
    | nil => have := h0 0 (by omega); cases this
    | cons x R =>
      have hx : x = c := by have := h0 0 (by omega); simpa using this
      rw [Th.rrun, if_pos (by simpa using hx), ih R (fun m hm => by have := h0 (m + 1) (by omega); simpa using this) (by simpa using h)]
theorem same_run {B : ByteArray} {j F e : Nat} (hj : j < B.size) (he : e ≤ B.size) (h : Same B j F) (hF : j + 1 + F ≤ e) (hend : j + 1 + F = e ∨ ¬ (B.data.toList)[j + 1 + F]? = (B.data.toList)[j]?) : Th.rrun B[j] (lets B (j + 1) e) = F := by
  apply run_is
  · intro m hm
    rw [lets_get, if_pos (by omega), h m hm, has_take B j hj]
  · rw [lets_get]
    split
    · rcases hend with g | g
      · omega
      · rw [has_take B j hj] at g; exact g
    · intro c; cases c
theorem rbit_le (x : Int) (n : Nat) : Th.rbit x n < 2 := Nat.mod_lt _ (by decide)
theorem rfield_lt (i : Th.Ins) (c : UInt8) (f : Nat) : Th.rfield i c f < 2 := by
  unfold Th.rfield
  repeat' split
  all_goals first | exact rbit_le _ _ | omega
theorem KRel.step {i : Th.Ins} {B : ByteArray} {A j N F : Nat} (h : KRel i B A j N) (hj : j < A + 16) (he : A + 16 ≤ B.size) (hr : Th.rrun (B[j]'(by omega)) (lets B (j + 1) (A + 16)) = F) : KRel i B A (j + 1) (2 * N + Th.rfield i (B[j]'(by omega)) F) := by
  unfold KRel at *
  rw [lets_cons B j (A + 16) hj he, Th.rhalf, hr] at h
  exact h
/-- the bytes of the first h halves -/
def outS (i : Th.Ins) (B : ByteArray) : Nat → ByteArray
  | 0 => ⟨#[]⟩
  | h + 1 => outS i B h ++ Th.str2 (Th.rhalf i 0 (lets B (16 * h) (16 * h + 16)))
theorem outS_size (i : Th.Ins) (B : ByteArray) (h : Nat) : (outS i B h).size = 2 * h := by
  induction h with
  | zero => rfl
  | succ h ih =>
    rw [outS, ByteArray.size_append, ih]
    have : (Th.str2 (Th.rhalf i 0 (lets B (16 * h) (16 * h + 16)))).size = 2 := rfl
    omega
theorem KRel.done {i : Th.Ins} {B : ByteArray} {h N : Nat} (k : KRel i B (16 * h) (16 * h + 16) N) : outS i B h ++ Th.str2 N = outS i B (h + 1) := by
  unfold KRel at k
  rw [lets_end, Th.rhalf] at k
  rw [outS, ← k]
theorem pow_step (a b N f : Nat) (h : N < 2 ^ a) (hf : f < 2) (e : b = a + 1) : 2 * N + f < 2 ^ b := by
  rw [e, Nat.pow_succ]; omega
set_option maxHeartbeats 8000000 in
set_option maxRecDepth 100000 in
theorem renc (op rd rn rm ra imm cond : Int) (wide : Bool) (w : World) (h0 : (Th.check ⟨op, rd, rn, rm, ra, imm, cond, wide⟩ != 0) = false) (h1 : 0 ≤ rd ∧ rd ≤ 12) (h2 : 0 ≤ rn ∧ rn ≤ 12) (h3 : 0 ≤ rm ∧ rm ≤ 12) (h4 : 0 ≤ ra ∧ ra ≤ 32) (h5 : -16777216 ≤ imm ∧ imm ≤ 16777214) (h6 : 0 ≤ cond ∧ cond ≤ 13) (B : ByteArray) (H : Nat) (HB : Hid (Th.rbits op wide = B)) (hB : 16 * H ≤ B.size) (hB' : B.size ≤ 16 * H) (hH : H ≤ 2) (hL : Hid (∀ k (hk : k < B.size), Letter B[k] ∧ (B[k] = 119 → 1 ≤ imm + ra))) :
    Calls Try.prog 25 #[.agg #[.int .i64 op, .int .i64 rd, .int .i64 rn, .int .i64 rm, .int .i64 ra, .int .i64 imm, .int .i64 cond, .bool wide]] w fun e w' => e = .returned (.tuple #[.string (outS ⟨op, rd, rn, rm, ra, imm, cond, wide⟩ B H), .int .i64 0]) ∧ Below w.heap.size w w' := by
  go_enter Try.func25, Try.ntmps25
  go_wp2_with (first | (go_at_call 41; refine (rcheck_any _ _ _ _ _ _ _ _ _).mono ?_; rintro e w1 ⟨rfl, hb1⟩; obtain ⟨hc, hf⟩ := bcell hb1) | (go_at_call 45; refine (rbits_any _ _ _).mono ?_; rintro e w' ⟨rfl, rfl⟩; rw [HB.out]))
  have hz := hb1.size
  simp at hz
  have HC := (ins_alloc w 39 op rd rn rm ra imm cond wide).below hb1 (by simp)
  have HW : Hid (Below w.heap.size w w1) := ((Below.refl _ _).alloc (Nat.le_refl _) _).trans (hb1.mono (by simp))
  have hs1 : w.heap.size < w1.heap.size := by omega
  clear hb1 hz hc hf
  generalize Value.agg #[.int .i64 op, _, _, _, _, _, _, _] = u0
  go_loopw [6, 7] (fun o a wr => Below w1.heap.size w1 wr ∧ InsAt wr w.heap.size op rd rn rm ra imm cond wide ∧ ∃ h : Nat, h ≤ H ∧ o = .string (outS ⟨op, rd, rn, rm, ra, imm, cond, wide⟩ B h) ∧ a = .int .i64 ((16 * h : Nat) : Int)) (fun _ a _ => 32 - (intOf a).toNat)
  case atStart => exact ⟨Below.refl _ _, HC, 0, by omega, rfl, rfl⟩
  case round =>
    obtain ⟨hbo, hio, h, hh, rfl, rfl⟩ := hrel
    clear HC
    generalize hO : outS ⟨op, rd, rn, rm, ra, imm, cond, wide⟩ B h = O
    have hOs : O.size = 2 * h := by rw [← hO]; exact outS_size _ _ _
    have hOs' : O.size ≤ 4 := by omega
    have HO := Lib.hid hO
    clear hO hOs
    generalize hA : 16 * h = A at *
    have HA := Lib.hid hA
    by_cases hlo : h < H
    · have hAB : A + 16 ≤ B.size := by omega
      have hAt : (A : Int) < (B.size : Int) := by omega
      have hA32 : A ≤ 16 := by omega
      clear hA
      go_wp2
      go_loopw [8, 9] (fun n k wr => Below w1.heap.size w1 wr ∧ InsAt wr w.heap.size op rd rn rm ra imm cond wide ∧ ∃ j N : Nat, A ≤ j ∧ j ≤ A + 16 ∧ N < 2 ^ (j - A) ∧ k = .int .i64 (j : Int) ∧ n = .int .i64 (N : Int) ∧ KRel ⟨op, rd, rn, rm, ra, imm, cond, wide⟩ B A j N) (fun _ k _ => A + 16 - (intOf k).toNat)
      case atStart => exact ⟨hbo, hio, A, 0, by omega, by omega, Nat.two_pow_pos _, rfl, rfl, KRel.start _ _ _⟩
      case round =>
        obtain ⟨hbr, hir, j, N, hjA, hj, hN, rfl, rfl, hK⟩ := hrel
        have HK := Lib.hid hK
        have HN := Lib.hid hN
        clear hK
        have hN16 : N < 65536 := by
          have : 2 ^ (j - A) ≤ 2 ^ 16 := Nat.pow_le_pow_right (by decide) (by omega)
          omega
        clear hN
        by_cases hlt : j < A + 16
        · have hjB : j < B.size := by omega
          have hlt' : (j : Int) < (A : Int) + 16 := by omega
          go_wp2
          go_loopw [10] (fun f wr' => Below w1.heap.size w1 wr' ∧ InsAt wr' w.heap.size op rd rn rm ra imm cond wide ∧ ∃ F : Nat, j + 1 + F ≤ A + 16 ∧ f = .int .i64 (F : Int) ∧ Same B j F) (fun f _ => 32 - (intOf f).toNat)
          case atStart => exact ⟨hbr, hir, 0, by omega, rfl, Same.start _ _⟩
          case round =>
            obtain ⟨hb2, hi2, F, hF, rfl, hS⟩ := hrel
            have HS := Lib.hid hS
            clear hS
            have q1 : IntKind.i64.wrap ((j : Int) + 1) = (j : Int) + 1 := IntWalk.i64_in _ (by omega)
            have q2 : IntKind.i64.wrap ((j : Int) + 1 + (F : Int)) = (j : Int) + 1 + (F : Int) := IntWalk.i64_in _ (by omega)
            have q8 : IntKind.i64.wrap ((A : Int) + 16) = (A : Int) + 16 := IntWalk.i64_in _ (by omega)
            by_cases g1 : j + 1 + F < A + 16
            · have hF2 : j + 1 + F < B.size := by omega
              have q3 : decide ((j : Int) + 1 + (F : Int) < (A : Int) + 16) = true := by simp; omega
              have q4 : (0 : Int) ≤ (j : Int) + 1 + (F : Int) := by omega
              have q5 : ((j : Int) + 1 + (F : Int)).toNat = j + 1 + F := by omega
              have q6 : (j : Int) + 1 + (F : Int) < (B.size : Int) := by omega
              by_cases g2 : B[j + 1 + F] = B[j]
              · have q7 : ((B[j + 1 + F].toNat : Int) == (B[j].toNat : Int)) = true := by rw [g2]; simp
                have g2' := Lib.hid g2
                clear g2
                go_wp2
                go_quiet (fail)
                go_wp2
                have HS' := Same.more HS.out (same_get hF2 hjB g2')
                refine ⟨⟨?_, ?_, F + 1, by omega, by go_num, HS'⟩, by simp [intOf]; omega⟩
                · exact below_drewN hb2 _
                · exact hi2
              · have q7 : ((B[j + 1 + F].toNat : Int) == (B[j].toNat : Int)) = false := by
                  rw [beq_eq_false_iff_ne]; intro e; exact g2 (UInt8.toNat_inj.1 (Int.ofNat_inj.1 e))
                have HR := Lib.hid (same_run hjB hAB HS.out (by omega) (Or.inr (by rw [has_take B _ hF2, has_take B _ hjB]; intro e; exact g2 (Option.some.inj e))))
                have HF := Lib.hid (rfield_lt ⟨op, rd, rn, rm, ra, imm, cond, wide⟩ B[j] F)
                clear g2
                go_wp2
                go_quiet (fail)
                go_wp2
                generalize hG : World.drewN _ _ = wg
                have hbg : Below w1.heap.size w1 wg := by rw [← hG]; exact below_drewN hb2 _
                have hig : InsAt wg w.heap.size op rd rn rm ra imm cond wide := by rw [← hG]; exact hi2
                clear hG
                have HF := Lib.hid (rfield_lt ⟨op, rd, rn, rm, ra, imm, cond, wide⟩ B[j] F)
                have HL' := Lib.hid (hL.out j hjB)
                have y1 : (0 : Int) ≤ (j : Int) := by omega
                have y2 : (j : Int).toNat = j := by omega
                have y3 : (j : Int) < (B.size : Int) := by omega
                have hg : w.heap.size < wg.heap.size := by have := hbg.size; omega
                have hfl := HF.out
                have z1 : IntKind.i64.wrap (2 * (N : Int)) = 2 * (N : Int) := IntWalk.i64_in _ (by omega)
                have z2 : IntKind.i64.wrap (2 * (N : Int) + ((Th.rfield ⟨op, rd, rn, rm, ra, imm, cond, wide⟩ B[j] F : Nat) : Int)) = 2 * (N : Int) + ((Th.rfield ⟨op, rd, rn, rm, ra, imm, cond, wide⟩ B[j] F : Nat) : Int) := IntWalk.i64_in _ (by omega)
                clear hfl
                go_region_held3 (fun wx => Below wg.heap.size wg wx ∧ InsAt wx w.heap.size op rd rn rm ra imm cond wide)
                  (first | exact ⟨(Below.refl _ _).drew, hig⟩ | exact sy_step (by assumption) (by assumption) hg)
                  (first | (go_at_call 46; refine (rfield_any _ _ _ _ _ _ _ _ B[j] F _ (by omega) h1 h2 h3 h4 h5 h6 HL'.out.2 HL'.out.1).mono ?_; rintro e w5 ⟨rfl, hb5⟩))
                rename_i hH
                clear z1 z2
                go_wp2
                have HK' := HK.out.step hlt hAB HR.out
                refine ⟨⟨hbg.trans (hH.1.mono hbg.size), hH.2, j + 1, 2 * N + Th.rfield ⟨op, rd, rn, rm, ra, imm, cond, wide⟩ B[j] F, by omega, by omega, pow_step (j - A) (j + 1 - A) N _ HN.out HF.out (by omega), by go_num, by go_num, HK'⟩, by simp [intOf]; omega⟩
            · have q3 : decide ((j : Int) + 1 + (F : Int) < (A : Int) + 16) = false := by simp; omega
              have HR := Lib.hid (same_run hjB hAB HS.out (by omega) (Or.inl (by omega)))
              go_wp2
              go_quiet (fail)
              go_wp2
              generalize hG : World.drewN _ _ = wg
              have hbg : Below w1.heap.size w1 wg := by rw [← hG]; exact below_drewN hb2 _
              have hig : InsAt wg w.heap.size op rd rn rm ra imm cond wide := by rw [← hG]; exact hi2
              clear hG
              have HF := Lib.hid (rfield_lt ⟨op, rd, rn, rm, ra, imm, cond, wide⟩ B[j] F)
              have HL' := Lib.hid (hL.out j hjB)
              have y1 : (0 : Int) ≤ (j : Int) := by omega
              have y2 : (j : Int).toNat = j := by omega
              have y3 : (j : Int) < (B.size : Int) := by omega
              have hg : w.heap.size < wg.heap.size := by have := hbg.size; omega
              have hfl := HF.out
              have z1 : IntKind.i64.wrap (2 * (N : Int)) = 2 * (N : Int) := IntWalk.i64_in _ (by omega)
              have z2 : IntKind.i64.wrap (2 * (N : Int) + ((Th.rfield ⟨op, rd, rn, rm, ra, imm, cond, wide⟩ B[j] F : Nat) : Int)) = 2 * (N : Int) + ((Th.rfield ⟨op, rd, rn, rm, ra, imm, cond, wide⟩ B[j] F : Nat) : Int) := IntWalk.i64_in _ (by omega)
              clear hfl
              go_region_held3 (fun wx => Below wg.heap.size wg wx ∧ InsAt wx w.heap.size op rd rn rm ra imm cond wide)
                (first | exact ⟨(Below.refl _ _).drew, hig⟩ | exact sy_step (by assumption) (by assumption) hg)
                (first | (go_at_call 46; refine (rfield_any _ _ _ _ _ _ _ _ B[j] F _ (by omega) h1 h2 h3 h4 h5 h6 HL'.out.2 HL'.out.1).mono ?_; rintro e w5 ⟨rfl, hb5⟩))
              rename_i hH
              clear z1 z2
              go_wp2
              have HK' := HK.out.step hlt hAB HR.out
              refine ⟨⟨hbg.trans (hH.1.mono hbg.size), hH.2, j + 1, 2 * N + Th.rfield ⟨op, rd, rn, rm, ra, imm, cond, wide⟩ B[j] F, by omega, by omega, pow_step (j - A) (j + 1 - A) N _ HN.out HF.out (by omega), by go_num, by go_num, HK'⟩, by simp [intOf]; omega⟩
        · have hge : ¬ (j : Int) < (A : Int) + 16 := by omega
          have hcat : ¬ 9223372036854775807 < O.size + (strOfNums [(N : Int) % 256, (N : Int) / 256]).size := by
            have : (strOfNums [(N : Int) % 256, (N : Int) / 256]).size = 2 := rfl
            omega
          have hr := run_str2
          go_wp2
          refine ⟨⟨hbr.alloc hbr.size _, InsAt.alloc hir (by have := hbr.size; omega) _, h + 1, by omega, ?_, ?_⟩, ?_⟩
          · have k := HK.out
            rw [show j = A + 16 by omega, ← HA.out] at k
            rw [← HO.out]
            exact congrArg Value.string k.done
          · exact congrArg (Value.int .i64) (by have := HA.out; omega)
          · simp [intOf]; omega
    · have hge : ¬ (A : Int) < (B.size : Int) := by omega
      have hge' : ¬ A < B.size := by omega
      have eh := Lib.hid (show h = H by omega)
      clear hA
      go_wp2
      go_ret2
      refine ⟨?_, HW.out.trans (hbo.mono (by omega))⟩
      rw [← HO.out, eh.out]
      rfl
end Go.Proofs.Ytplfpaffjaldoaa
end
section
namespace Go.Proofs.Ytplfpaffjaldoaa
open Go.ChangeShapes Go.WideShapes Go.ChangeAt Go.RowKit
set_option linter.unusedVariables false

theorem lett (B : ByteArray) (imm ra : Int) (h : ∀ c ∈ B.data.toList, Letter c) (h' : (∀ c ∈ B.data.toList, ¬ c = 119) ∨ 1 ≤ imm + ra) : ∀ k (hk : k < B.size), Letter B[k] ∧ (B[k] = 119 → 1 ≤ imm + ra) := by
  intro k hk
  have hm : B[k] ∈ B.data.toList := by
    have : B.data.toList[k]? = some B[k] := has_take B k hk
    exact List.mem_of_getElem? this
  refine ⟨h _ hm, fun e => ?_⟩
  rcases h' with h' | h'
  · exact absurd e (h' _ hm)
  · exact h'
theorem out1 (i : Th.Ins) (B : ByteArray) (l : List UInt8) (h : lets B 0 16 = l) (hn : Th.rhalf i 0 l = Th.num i) (hc : Th.check i = 0) (hs : Th.size i = 2) : outS i B 1 = Th.encS i := by
  rw [Th.encS2 i hc hs]
  show (⟨#[]⟩ : ByteArray) ++ Th.str2 (Th.rhalf i 0 (lets B 0 16)) = _
  rw [h, hn, Th.str2_is]
  rfl
theorem out2 (i : Th.Ins) (B : ByteArray) (l m : List UInt8) (h : lets B 0 16 = l) (h' : lets B 16 32 = m) (hn : Th.rhalf i 0 l = Th.num i / 65536 ∧ Th.rhalf i 0 m = Th.num i % 65536) (hc : Th.check i = 0) (hs : Th.size i = 4) : outS i B 2 = Th.encS i := by
  have hb := Th.num4_bd i hc hs
  rw [Th.encS4 i hc hs]
  show ((⟨#[]⟩ : ByteArray) ++ Th.str2 (Th.rhalf i 0 (lets B 0 16))) ++ Th.str2 (Th.rhalf i 0 (lets B 16 32)) = _
  rw [h, h', hn.1, hn.2, Th.str2_is, Th.str2_is]
  have e0 : Th.by0 (Th.num i / 65536) = Th.b40 (Th.num i) := by unfold Th.by0 Th.b40; congr 1
  have e1 : Th.by1 (Th.num i / 65536) = Th.b41 (Th.num i) := by unfold Th.by1 Th.b41; congr 1; omega
  have e2 : Th.by0 (Th.num i % 65536) = Th.b42 (Th.num i) := by unfold Th.by0 Th.b42; congr 1; omega
  have e3 : Th.by1 (Th.num i % 65536) = Th.b43 (Th.num i) := by unfold Th.by1 Th.b43; congr 1; omega
  rw [e0, e1, e2, e3]
  rfl
theorem letter_of (c : UInt8) (h : (c == 48 || c == 49 || c == 100 || c == 110 || c == 109 || c == 97 || c == 99 || c == 119 || c == 120 || c == 121 || (decide (65 ≤ c.toNat) && decide (c.toNat ≤ 90))) = true) : Letter c := by
  unfold Letter
  simp only [Bool.or_eq_true, Bool.and_eq_true, beq_iff_eq, decide_eq_true_eq, or_assoc] at h
  exact h
def letterB (c : UInt8) : Bool := c == 48 || c == 49 || c == 100 || c == 110 || c == 109 || c == 97 || c == 99 || c == 119 || c == 120 || c == 121 || (decide (65 ≤ c.toNat) && decide (c.toNat ≤ 90))
theorem letters (l : List UInt8) (h : l.all letterB = true) : ∀ c ∈ l, Letter c := fun c hc => letter_of c (by rw [List.all_eq_true] at h; exact h c hc)
theorem no119 (l : List UInt8) (h : l.all (fun c => c != 119) = true) : ∀ c ∈ l, ¬ c = 119 := fun c hc => by
  rw [List.all_eq_true] at h
  have := h c hc
  simpa using this
set_option maxHeartbeats 4000000 in
theorem renc_bad (op rd rn rm ra imm cond : Int) (wide : Bool) (w : World) (h0 : (Th.check ⟨op, rd, rn, rm, ra, imm, cond, wide⟩ != 0) = true) :
    Calls Try.prog 25 #[.agg #[.int .i64 op, .int .i64 rd, .int .i64 rn, .int .i64 rm, .int .i64 ra, .int .i64 imm, .int .i64 cond, .bool wide]] w fun e w' => e = .returned (.tuple #[.string ⟨#[]⟩, .int .i64 (Th.check ⟨op, rd, rn, rm, ra, imm, cond, wide⟩)]) ∧ Below w.heap.size w w' := by
  go_enter Try.func25, Try.ntmps25
  go_wp2_with (go_at_call 41; refine (rcheck_any _ _ _ _ _ _ _ _ _).mono ?_; rintro e w1 ⟨rfl, hb1⟩)
  go_ret2
  exact ⟨rfl, ((Below.refl _ _).alloc (Nat.le_refl _) _).trans (hb1.mono (by simp))⟩
theorem renc_ok (op rd rn rm ra imm cond : Int) (wide : Bool) (w : World) (h : Th.check ⟨op, rd, rn, rm, ra, imm, cond, wide⟩ = 0) (h1 : 0 ≤ rd ∧ rd ≤ 12) (h2 : 0 ≤ rn ∧ rn ≤ 12) (h3 : 0 ≤ rm ∧ rm ≤ 12) (h4 : 0 ≤ ra ∧ ra ≤ 32) (h5 : -16777216 ≤ imm ∧ imm ≤ 16777214) (h6 : 0 ≤ cond ∧ cond ≤ 13) (H : Nat) (hB : (Th.rbits op wide).size = 16 * H) (hH : H ≤ 2) (hL : ∀ c ∈ (Th.rbits op wide).data.toList, Letter c) (hL' : (∀ c ∈ (Th.rbits op wide).data.toList, ¬ c = 119) ∨ 1 ≤ imm + ra) (ho : outS ⟨op, rd, rn, rm, ra, imm, cond, wide⟩ (Th.rbits op wide) H = Th.encS ⟨op, rd, rn, rm, ra, imm, cond, wide⟩) :
    Calls Try.prog 25 #[.agg #[.int .i64 op, .int .i64 rd, .int .i64 rn, .int .i64 rm, .int .i64 ra, .int .i64 imm, .int .i64 cond, .bool wide]] w fun e w' => e = .returned (.tuple #[.string (Th.encS ⟨op, rd, rn, rm, ra, imm, cond, wide⟩), .int .i64 (Th.check ⟨op, rd, rn, rm, ra, imm, cond, wide⟩)]) ∧ Below w.heap.size w w' := by
  have := renc op rd rn rm ra imm cond wide w (by rw [h]; rfl) h1 h2 h3 h4 h5 h6 (Th.rbits op wide) H (Lib.hid rfl) (by omega) (by omega) hH (Lib.hid (lett _ imm ra hL hL'))
  rw [ho] at this
  rw [h]
  exact this
set_option maxRecDepth 100000 in
theorem rencode_any (op rd rn rm ra imm cond : Int) (wide : Bool) (w : World) :
    Calls Try.prog 25 #[.agg #[.int .i64 op, .int .i64 rd, .int .i64 rn, .int .i64 rm, .int .i64 ra, .int .i64 imm, .int .i64 cond, .bool wide]] w fun e w' => e = .returned (.tuple #[.string (Th.encS ⟨op, rd, rn, rm, ra, imm, cond, wide⟩), .int .i64 (Th.check ⟨op, rd, rn, rm, ra, imm, cond, wide⟩)]) ∧ Below w.heap.size w w' := by
  by_cases h : Th.check ⟨op, rd, rn, rm, ra, imm, cond, wide⟩ = 0
  · rcases Th.op_cases (Th.op_range h) with rfl | rfl | rfl | rfl | rfl | rfl | rfl | rfl | rfl | rfl | rfl | rfl | rfl | rfl | rfl | rfl | rfl | rfl | rfl | rfl | rfl | rfl | rfl | rfl | rfl
    · have h' := h
      rw [Th.ok1] at h'
      obtain ⟨g1, g2, g3, g4, g5, g6, rfl⟩ := h'
      exact renc_ok _ _ _ _ _ _ _ _ w h (by omega) (by omega) (by omega) (by omega) (by omega) (by omega) 1 rfl (by decide) (letters _ (by decide)) (Or.inl (no119 _ (by decide))) (out1 _ _ _ rfl (Th.half1 _ _ _ _ _ _ (by omega)) h (Th.size1 _ _ _ _ _ _ _ h))
    · have h' := h
      rw [Th.ok2] at h'
      obtain ⟨g1, g2, g3, g4, g5, g6, rfl⟩ := h'
      exact renc_ok _ _ _ _ _ _ _ _ w h (by omega) (by omega) (by omega) (by omega) (by omega) (by omega) 1 rfl (by decide) (letters _ (by decide)) (Or.inl (no119 _ (by decide))) (out1 _ _ _ rfl (Th.half2 _ _ _ _ _ _ (by omega)) h (Th.size2 _ _ _ _ _ _ _ h))
    · have h' := h
      rw [Th.ok3] at h'
      obtain ⟨g1, g2, g3, g4, g5, g6, rfl⟩ := h'
      exact renc_ok _ _ _ _ _ _ _ _ w h (by omega) (by omega) (by omega) (by omega) (by omega) (by omega) 2 rfl (by decide) (letters _ (by decide)) (Or.inl (no119 _ (by decide))) (out2 _ _ _ _ rfl rfl (Th.half3 _ _ _ _ _ _ (by omega)) h (Th.size3 _ _ _ _ _ _ _ h))
    · have h' := h
      rw [Th.ok4] at h'
      obtain ⟨g1, g2, g3, g4, g5, g6, rfl⟩ := h'
      exact renc_ok _ _ _ _ _ _ _ _ w h (by omega) (by omega) (by omega) (by omega) (by omega) (by omega) 2 rfl (by decide) (letters _ (by decide)) (Or.inl (no119 _ (by decide))) (out2 _ _ _ _ rfl rfl (Th.half4 _ _ _ _ _ _ (by omega)) h (Th.size4 _ _ _ _ _ _ _ h))
    · have h' := h
      rw [Th.ok5] at h'
      obtain ⟨g1, g2, g3, g4, g5, g6, rfl⟩ := h'
      exact renc_ok _ _ _ _ _ _ _ _ w h (by omega) (by omega) (by omega) (by omega) (by omega) (by omega) 2 rfl (by decide) (letters _ (by decide)) (Or.inl (no119 _ (by decide))) (out2 _ _ _ _ rfl rfl (Th.half5 _ _ _ _ _ _ (by omega)) h (Th.size5 _ _ _ _ _ _ _ h))
    · have h' := h
      rw [Th.ok6] at h'
      obtain ⟨g1, g2, g3, g4, g5, g6, rfl⟩ := h'
      exact renc_ok _ _ _ _ _ _ _ _ w h (by omega) (by omega) (by omega) (by omega) (by omega) (by omega) 2 rfl (by decide) (letters _ (by decide)) (Or.inl (no119 _ (by decide))) (out2 _ _ _ _ rfl rfl (Th.half6 _ _ _ _ _ _ (by omega)) h (Th.size6 _ _ _ _ _ _ _ h))
    · have h' := h
      rw [Th.ok7] at h'
      obtain ⟨g1, g2, g3, g4, g5, g6, rfl⟩ := h'
      exact renc_ok _ _ _ _ _ _ _ _ w h (by omega) (by omega) (by omega) (by omega) (by omega) (by omega) 2 rfl (by decide) (letters _ (by decide)) (Or.inl (no119 _ (by decide))) (out2 _ _ _ _ rfl rfl (Th.half7 _ _ _ _ _ _ (by omega)) h (Th.size7 _ _ _ _ _ _ _ h))
    · have h' := h
      rw [Th.ok8] at h'
      obtain ⟨g1, g2, g3, g4, g5, g6, rfl⟩ := h'
      exact renc_ok _ _ _ _ _ _ _ _ w h (by omega) (by omega) (by omega) (by omega) (by omega) (by omega) 2 rfl (by decide) (letters _ (by decide)) (Or.inl (no119 _ (by decide))) (out2 _ _ _ _ rfl rfl (Th.half8 _ _ _ _ _ _ (by omega)) h (Th.size8 _ _ _ _ _ _ _ h))
    · have h' := h
      rw [Th.ok9] at h'
      obtain ⟨g1, g2, g3, g4, g5, g6, rfl⟩ := h'
      exact renc_ok _ _ _ _ _ _ _ _ w h (by omega) (by omega) (by omega) (by omega) (by omega) (by omega) 2 rfl (by decide) (letters _ (by decide)) (Or.inl (no119 _ (by decide))) (out2 _ _ _ _ rfl rfl (Th.half9 _ _ _ _ _ _ (by omega)) h (Th.size9 _ _ _ _ _ _ _ h))
    · have h' := h
      rw [Th.ok10] at h'
      obtain ⟨g1, g2, g3, g4, g5, g6, rfl⟩ := h'
      exact renc_ok _ _ _ _ _ _ _ _ w h (by omega) (by omega) (by omega) (by omega) (by omega) (by omega) 2 rfl (by decide) (letters _ (by decide)) (Or.inl (no119 _ (by decide))) (out2 _ _ _ _ rfl rfl (Th.half10 _ _ _ _ _ _ (by omega)) h (Th.size10 _ _ _ _ _ _ _ h))
    · have h' := h
      rw [Th.ok11] at h'
      obtain ⟨g1, g2, g3, g4, g5, g6, rfl⟩ := h'
      exact renc_ok _ _ _ _ _ _ _ _ w h (by omega) (by omega) (by omega) (by omega) (by omega) (by omega) 2 rfl (by decide) (letters _ (by decide)) (Or.inl (no119 _ (by decide))) (out2 _ _ _ _ rfl rfl (Th.half11 _ _ _ _ _ _ (by omega)) h (Th.size11 _ _ _ _ _ _ _ h))
    · have h' := h
      rw [Th.ok12] at h'
      obtain ⟨g1, g2, g3, g4, g5, g6, rfl⟩ := h'
      exact renc_ok _ _ _ _ _ _ _ _ w h (by omega) (by omega) (by omega) (by omega) (by omega) (by omega) 2 rfl (by decide) (letters _ (by decide)) (Or.inl (no119 _ (by decide))) (out2 _ _ _ _ rfl rfl (Th.half12 _ _ _ _ _ _ (by omega)) h (Th.size12 _ _ _ _ _ _ _ h))
    · have h' := h
      rw [Th.ok13] at h'
      obtain ⟨g1, g2, g3, g4, g5, g6, rfl⟩ := h'
      exact renc_ok _ _ _ _ _ _ _ _ w h (by omega) (by omega) (by omega) (by omega) (by omega) (by omega) 2 rfl (by decide) (letters _ (by decide)) (Or.inl (no119 _ (by decide))) (out2 _ _ _ _ rfl rfl (Th.half13 _ _ _ _ _ _ (by omega)) h (Th.size13 _ _ _ _ _ _ _ h))
    · have h' := h
      rw [Th.ok14] at h'
      obtain ⟨g1, g2, g3, g4, g5, g6, rfl⟩ := h'
      exact renc_ok _ _ _ _ _ _ _ _ w h (by omega) (by omega) (by omega) (by omega) (by omega) (by omega) 2 rfl (by decide) (letters _ (by decide)) (Or.inl (no119 _ (by decide))) (out2 _ _ _ _ rfl rfl (Th.half14 _ _ _ _ _ _ (by omega)) h (Th.size14 _ _ _ _ _ _ _ h))
    · have h' := h
      rw [Th.ok15] at h'
      obtain ⟨g1, g2, g3, g4, g5, g6, rfl⟩ := h'
      exact renc_ok _ _ _ _ _ _ _ _ w h (by omega) (by omega) (by omega) (by omega) (by omega) (by omega) 2 rfl (by decide) (letters _ (by decide)) (Or.inl (no119 _ (by decide))) (out2 _ _ _ _ rfl rfl (Th.half15 _ _ _ _ _ _ (by omega)) h (Th.size15 _ _ _ _ _ _ _ h))
    · have h' := h
      rw [Th.ok16] at h'
      obtain ⟨g1, g2, g3, g4, g5, g6, rfl⟩ := h'
      exact renc_ok _ _ _ _ _ _ _ _ w h (by omega) (by omega) (by omega) (by omega) (by omega) (by omega) 2 rfl (by decide) (letters _ (by decide)) (Or.inl (no119 _ (by decide))) (out2 _ _ _ _ rfl rfl (Th.half16 _ _ _ _ _ _ (by omega)) h (Th.size16 _ _ _ _ _ _ _ h))
    · have h' := h
      rw [Th.ok17] at h'
      obtain ⟨g1, g2, g3, g4, g5, g6, rfl⟩ := h'
      exact renc_ok _ _ _ _ _ _ _ _ w h (by omega) (by omega) (by omega) (by omega) (by omega) (by omega) 2 rfl (by decide) (letters _ (by decide)) (Or.inl (no119 _ (by decide))) (out2 _ _ _ _ rfl rfl (Th.half17 _ _ _ _ _ _ (by omega)) h (Th.size17 _ _ _ _ _ _ _ h))
    · have h' := h
      rw [Th.ok18] at h'
      obtain ⟨g1, g2, g3, g4, g5, g6, rfl⟩ := h'
      exact renc_ok _ _ _ _ _ _ _ _ w h (by omega) (by omega) (by omega) (by omega) (by omega) (by omega) 2 rfl (by decide) (letters _ (by decide)) (Or.inr (by omega)) (out2 _ _ _ _ rfl rfl (Th.half18 _ _ _ _ _ _ (by omega)) h (Th.size18 _ _ _ _ _ _ _ h))
    · have h' := h
      rw [Th.ok19] at h'
      obtain ⟨g1, g2, g3, g4, g5, g6, rfl⟩ := h'
      exact renc_ok _ _ _ _ _ _ _ _ w h (by omega) (by omega) (by omega) (by omega) (by omega) (by omega) 1 rfl (by decide) (letters _ (by decide)) (Or.inl (no119 _ (by decide))) (out1 _ _ _ rfl (Th.half19 _ _ _ _ _ _ (by omega)) h (Th.size19 _ _ _ _ _ _ _ h))
    · have h' := h
      rw [Th.ok20] at h'
      obtain ⟨g1, g2, g3, g4, g5, g6, rfl⟩ := h'
      exact renc_ok _ _ _ _ _ _ _ _ w h (by omega) (by omega) (by omega) (by omega) (by omega) (by omega) 1 rfl (by decide) (letters _ (by decide)) (Or.inl (no119 _ (by decide))) (out1 _ _ _ rfl (Th.half20 _ _ _ _ _ _ (by omega)) h (Th.size20 _ _ _ _ _ _ _ h))
    · have h' := h
      rw [Th.ok21] at h'
      obtain ⟨g1, g2, g3, g4, g5, g6, rfl⟩ := h'
      exact renc_ok _ _ _ _ _ _ _ _ w h (by omega) (by omega) (by omega) (by omega) (by omega) (by omega) 1 rfl (by decide) (letters _ (by decide)) (Or.inl (no119 _ (by decide))) (out1 _ _ _ rfl (Th.half21 _ _ _ _ _ _ (by omega)) h (Th.size21 _ _ _ _ _ _ _ h))
    · have h' := h
      rw [Th.ok22] at h'
      obtain ⟨g1, g2, g3, g4, g5, g6, rfl⟩ := h'
      exact renc_ok _ _ _ _ _ _ _ _ w h (by omega) (by omega) (by omega) (by omega) (by omega) (by omega) 1 rfl (by decide) (letters _ (by decide)) (Or.inl (no119 _ (by decide))) (out1 _ _ _ rfl (Th.half22 _ _ _ _ _ _ (by omega)) h (Th.size22 _ _ _ _ _ _ _ h))
    · have h' := h
      rw [Th.ok23] at h'
      obtain ⟨g1, g2, g3, g4, g5, g6, rfl⟩ := h'
      exact renc_ok _ _ _ _ _ _ _ _ w h (by omega) (by omega) (by omega) (by omega) (by omega) (by omega) 1 rfl (by decide) (letters _ (by decide)) (Or.inl (no119 _ (by decide))) (out1 _ _ _ rfl (Th.half23 _ _ _ _ _ _ (by omega)) h (Th.size23 _ _ _ _ _ _ _ h))
    · cases wide
      · have h' := h
        rw [Th.ok24] at h'
        simp at h'
        exact renc_ok _ _ _ _ _ _ _ _ w h (by omega) (by omega) (by omega) (by omega) (by omega) (by omega) 1 rfl (by decide) (letters _ (by decide)) (Or.inl (no119 _ (by decide))) (out1 _ _ _ rfl (Th.half24n _ _ _ _ _ _) h (Th.size24n _ _ _ _ _ _ h))
      · have h' := h
        rw [Th.ok24] at h'
        simp at h'
        exact renc_ok _ _ _ _ _ _ _ _ w h (by omega) (by omega) (by omega) (by omega) (by omega) (by omega) 2 rfl (by decide) (letters _ (by decide)) (Or.inl (no119 _ (by decide))) (out2 _ _ _ _ rfl rfl (Th.half24w _ _ _ _ _ _ (Th.off_bd imm (by omega)).1) h (Th.size24w _ _ _ _ _ _ h))
    · cases wide
      · have h' := h
        rw [Th.ok25] at h'
        simp at h'
        exact renc_ok _ _ _ _ _ _ _ _ w h (by omega) (by omega) (by omega) (by omega) (by omega) (by omega) 1 rfl (by decide) (letters _ (by decide)) (Or.inl (no119 _ (by decide))) (out1 _ _ _ rfl (Th.half25n _ _ _ _ _ _) h (Th.size25n _ _ _ _ _ _ h))
      · have h' := h
        rw [Th.ok25] at h'
        simp at h'
        exact renc_ok _ _ _ _ _ _ _ _ w h (by omega) (by omega) (by omega) (by omega) (by omega) (by omega) 2 rfl (by decide) (letters _ (by decide)) (Or.inl (no119 _ (by decide))) (out2 _ _ _ _ rfl rfl (Th.half25w _ _ _ _ _ _) h (Th.size25w _ _ _ _ _ _ h))
  · have e : Th.encS ⟨op, rd, rn, rm, ra, imm, cond, wide⟩ = ⟨#[]⟩ := by unfold Th.encS; rw [if_neg h]
    rw [e]
    exact renc_bad op rd rn rm ra imm cond wide w (by simpa using h)
end Go.Proofs.Ytplfpaffjaldoaa
end
