/-
What the document's own taken returns, letter by letter.
What the document's own taken returns, of what is gathered so far.
What the document's own read of decode returns.
-/
import Derived.Test.YtdefgliogmlghaaDecodeO
import Derived.Test.YtdefgliogmlghaaDecodeM
import Derived.Test.YtdefgliogmlghaaThumbX
import Derived.Deep.RegionHeld3
section
namespace Go.Proofs.Ytdefgliogmlghaa
open Go.ChangeShapes Go.WideShapes Go.ChangeAt Go.RowKit
set_option linter.unusedVariables false

set_option maxHeartbeats 4000000 in
theorem tk_d (op rd rn rm ra imm cond : Int) (wide : Bool) (bit : Int) (b : Nat) (w : World) (h1 : 0 ≤ rd ∧ rd ≤ 8589934592) (h2 : 0 ≤ rn ∧ rn ≤ 8589934592) (h3 : 0 ≤ rm ∧ rm ≤ 8589934592) (h4 : 0 ≤ ra ∧ ra ≤ 8589934592) (h5 : 0 ≤ imm ∧ imm ≤ 8589934592) (h6 : 0 ≤ cond ∧ cond ≤ 8589934592) (h7 : 0 ≤ bit ∧ bit ≤ 1) :
    Calls Try.prog 59 #[.agg #[.int .i64 op, .int .i64 rd, .int .i64 rn, .int .i64 rm, .int .i64 ra, .int .i64 imm, .int .i64 cond, .bool wide], .int .u8 100, .int .i64 bit, .pointer (some ⟨b, 0, none⟩)] w fun e w' => e = .returned (.agg #[.int .i64 op, .int .i64 (2 * rd + bit), .int .i64 rn, .int .i64 rm, .int .i64 ra, .int .i64 imm, .int .i64 cond, .bool wide]) ∧ Below w.heap.size w w' := by
  obtain ⟨h1a, h1b⟩ := h1
  obtain ⟨h2a, h2b⟩ := h2
  obtain ⟨h3a, h3b⟩ := h3
  obtain ⟨h4a, h4b⟩ := h4
  obtain ⟨h5a, h5b⟩ := h5
  obtain ⟨h6a, h6b⟩ := h6
  obtain ⟨h7a, h7b⟩ := h7
  go_enter Try.func59, Try.ntmps59
  go_wp2
  exact bodyPost_ret (v := .agg #[.int .i64 op, .int .i64 (2 * rd + bit), .int .i64 rn, .int .i64 rm, .int .i64 ra, .int .i64 imm, .int .i64 cond, .bool wide]) (by simp [results, Try.results59, go_sem]) rfl ⟨rfl, by go_grown⟩
set_option maxHeartbeats 4000000 in
theorem tk_n (op rd rn rm ra imm cond : Int) (wide : Bool) (bit : Int) (b : Nat) (w : World) (h1 : 0 ≤ rd ∧ rd ≤ 8589934592) (h2 : 0 ≤ rn ∧ rn ≤ 8589934592) (h3 : 0 ≤ rm ∧ rm ≤ 8589934592) (h4 : 0 ≤ ra ∧ ra ≤ 8589934592) (h5 : 0 ≤ imm ∧ imm ≤ 8589934592) (h6 : 0 ≤ cond ∧ cond ≤ 8589934592) (h7 : 0 ≤ bit ∧ bit ≤ 1) :
    Calls Try.prog 59 #[.agg #[.int .i64 op, .int .i64 rd, .int .i64 rn, .int .i64 rm, .int .i64 ra, .int .i64 imm, .int .i64 cond, .bool wide], .int .u8 110, .int .i64 bit, .pointer (some ⟨b, 0, none⟩)] w fun e w' => e = .returned (.agg #[.int .i64 op, .int .i64 rd, .int .i64 (2 * rn + bit), .int .i64 rm, .int .i64 ra, .int .i64 imm, .int .i64 cond, .bool wide]) ∧ Below w.heap.size w w' := by
  obtain ⟨h1a, h1b⟩ := h1
  obtain ⟨h2a, h2b⟩ := h2
  obtain ⟨h3a, h3b⟩ := h3
  obtain ⟨h4a, h4b⟩ := h4
  obtain ⟨h5a, h5b⟩ := h5
  obtain ⟨h6a, h6b⟩ := h6
  obtain ⟨h7a, h7b⟩ := h7
  go_enter Try.func59, Try.ntmps59
  go_wp2
  exact bodyPost_ret (v := .agg #[.int .i64 op, .int .i64 rd, .int .i64 (2 * rn + bit), .int .i64 rm, .int .i64 ra, .int .i64 imm, .int .i64 cond, .bool wide]) (by simp [results, Try.results59, go_sem]) rfl ⟨rfl, by go_grown⟩
set_option maxHeartbeats 4000000 in
theorem tk_m (op rd rn rm ra imm cond : Int) (wide : Bool) (bit : Int) (b : Nat) (w : World) (h1 : 0 ≤ rd ∧ rd ≤ 8589934592) (h2 : 0 ≤ rn ∧ rn ≤ 8589934592) (h3 : 0 ≤ rm ∧ rm ≤ 8589934592) (h4 : 0 ≤ ra ∧ ra ≤ 8589934592) (h5 : 0 ≤ imm ∧ imm ≤ 8589934592) (h6 : 0 ≤ cond ∧ cond ≤ 8589934592) (h7 : 0 ≤ bit ∧ bit ≤ 1) :
    Calls Try.prog 59 #[.agg #[.int .i64 op, .int .i64 rd, .int .i64 rn, .int .i64 rm, .int .i64 ra, .int .i64 imm, .int .i64 cond, .bool wide], .int .u8 109, .int .i64 bit, .pointer (some ⟨b, 0, none⟩)] w fun e w' => e = .returned (.agg #[.int .i64 op, .int .i64 rd, .int .i64 rn, .int .i64 (2 * rm + bit), .int .i64 ra, .int .i64 imm, .int .i64 cond, .bool wide]) ∧ Below w.heap.size w w' := by
  obtain ⟨h1a, h1b⟩ := h1
  obtain ⟨h2a, h2b⟩ := h2
  obtain ⟨h3a, h3b⟩ := h3
  obtain ⟨h4a, h4b⟩ := h4
  obtain ⟨h5a, h5b⟩ := h5
  obtain ⟨h6a, h6b⟩ := h6
  obtain ⟨h7a, h7b⟩ := h7
  go_enter Try.func59, Try.ntmps59
  go_wp2
  exact bodyPost_ret (v := .agg #[.int .i64 op, .int .i64 rd, .int .i64 rn, .int .i64 (2 * rm + bit), .int .i64 ra, .int .i64 imm, .int .i64 cond, .bool wide]) (by simp [results, Try.results59, go_sem]) rfl ⟨rfl, by go_grown⟩
set_option maxHeartbeats 4000000 in
theorem tk_a (op rd rn rm ra imm cond : Int) (wide : Bool) (bit : Int) (b : Nat) (w : World) (h1 : 0 ≤ rd ∧ rd ≤ 8589934592) (h2 : 0 ≤ rn ∧ rn ≤ 8589934592) (h3 : 0 ≤ rm ∧ rm ≤ 8589934592) (h4 : 0 ≤ ra ∧ ra ≤ 8589934592) (h5 : 0 ≤ imm ∧ imm ≤ 8589934592) (h6 : 0 ≤ cond ∧ cond ≤ 8589934592) (h7 : 0 ≤ bit ∧ bit ≤ 1) :
    Calls Try.prog 59 #[.agg #[.int .i64 op, .int .i64 rd, .int .i64 rn, .int .i64 rm, .int .i64 ra, .int .i64 imm, .int .i64 cond, .bool wide], .int .u8 97, .int .i64 bit, .pointer (some ⟨b, 0, none⟩)] w fun e w' => e = .returned (.agg #[.int .i64 op, .int .i64 rd, .int .i64 rn, .int .i64 rm, .int .i64 (2 * ra + bit), .int .i64 imm, .int .i64 cond, .bool wide]) ∧ Below w.heap.size w w' := by
  obtain ⟨h1a, h1b⟩ := h1
  obtain ⟨h2a, h2b⟩ := h2
  obtain ⟨h3a, h3b⟩ := h3
  obtain ⟨h4a, h4b⟩ := h4
  obtain ⟨h5a, h5b⟩ := h5
  obtain ⟨h6a, h6b⟩ := h6
  obtain ⟨h7a, h7b⟩ := h7
  go_enter Try.func59, Try.ntmps59
  go_wp2
  exact bodyPost_ret (v := .agg #[.int .i64 op, .int .i64 rd, .int .i64 rn, .int .i64 rm, .int .i64 (2 * ra + bit), .int .i64 imm, .int .i64 cond, .bool wide]) (by simp [results, Try.results59, go_sem]) rfl ⟨rfl, by go_grown⟩
set_option maxHeartbeats 4000000 in
theorem tk_c (op rd rn rm ra imm cond : Int) (wide : Bool) (bit : Int) (b : Nat) (w : World) (h1 : 0 ≤ rd ∧ rd ≤ 8589934592) (h2 : 0 ≤ rn ∧ rn ≤ 8589934592) (h3 : 0 ≤ rm ∧ rm ≤ 8589934592) (h4 : 0 ≤ ra ∧ ra ≤ 8589934592) (h5 : 0 ≤ imm ∧ imm ≤ 8589934592) (h6 : 0 ≤ cond ∧ cond ≤ 8589934592) (h7 : 0 ≤ bit ∧ bit ≤ 1) :
    Calls Try.prog 59 #[.agg #[.int .i64 op, .int .i64 rd, .int .i64 rn, .int .i64 rm, .int .i64 ra, .int .i64 imm, .int .i64 cond, .bool wide], .int .u8 99, .int .i64 bit, .pointer (some ⟨b, 0, none⟩)] w fun e w' => e = .returned (.agg #[.int .i64 op, .int .i64 rd, .int .i64 rn, .int .i64 rm, .int .i64 ra, .int .i64 imm, .int .i64 (2 * cond + bit), .bool wide]) ∧ Below w.heap.size w w' := by
  obtain ⟨h1a, h1b⟩ := h1
  obtain ⟨h2a, h2b⟩ := h2
  obtain ⟨h3a, h3b⟩ := h3
  obtain ⟨h4a, h4b⟩ := h4
  obtain ⟨h5a, h5b⟩ := h5
  obtain ⟨h6a, h6b⟩ := h6
  obtain ⟨h7a, h7b⟩ := h7
  go_enter Try.func59, Try.ntmps59
  go_wp2
  exact bodyPost_ret (v := .agg #[.int .i64 op, .int .i64 rd, .int .i64 rn, .int .i64 rm, .int .i64 ra, .int .i64 imm, .int .i64 (2 * cond + bit), .bool wide]) (by simp [results, Try.results59, go_sem]) rfl ⟨rfl, by go_grown⟩
set_option maxHeartbeats 4000000 in
theorem tk_x (op rd rn rm ra imm cond : Int) (wide : Bool) (bit : Int) (b : Nat) (w : World) (h1 : 0 ≤ rd ∧ rd ≤ 8589934592) (h2 : 0 ≤ rn ∧ rn ≤ 8589934592) (h3 : 0 ≤ rm ∧ rm ≤ 8589934592) (h4 : 0 ≤ ra ∧ ra ≤ 8589934592) (h5 : 0 ≤ imm ∧ imm ≤ 8589934592) (h6 : 0 ≤ cond ∧ cond ≤ 8589934592) (h7 : 0 ≤ bit ∧ bit ≤ 1) :
    Calls Try.prog 59 #[.agg #[.int .i64 op, .int .i64 rd, .int .i64 rn, .int .i64 rm, .int .i64 ra, .int .i64 imm, .int .i64 cond, .bool wide], .int .u8 120, .int .i64 bit, .pointer (some ⟨b, 0, none⟩)] w fun e w' => e = .returned (.agg #[.int .i64 op, .int .i64 rd, .int .i64 rn, .int .i64 rm, .int .i64 ra, .int .i64 imm, .int .i64 cond, .bool wide]) ∧ Below w.heap.size w w' := by
  obtain ⟨h1a, h1b⟩ := h1
  obtain ⟨h2a, h2b⟩ := h2
  obtain ⟨h3a, h3b⟩ := h3
  obtain ⟨h4a, h4b⟩ := h4
  obtain ⟨h5a, h5b⟩ := h5
  obtain ⟨h6a, h6b⟩ := h6
  obtain ⟨h7a, h7b⟩ := h7
  go_enter Try.func59, Try.ntmps59
  go_wp2
  exact bodyPost_ret (v := .agg #[.int .i64 op, .int .i64 rd, .int .i64 rn, .int .i64 rm, .int .i64 ra, .int .i64 imm, .int .i64 cond, .bool wide]) (by simp [results, Try.results59, go_sem]) rfl ⟨rfl, by go_grown⟩
set_option maxHeartbeats 4000000 in
theorem tk_y (op rd rn rm ra imm cond : Int) (wide : Bool) (bit : Int) (b : Nat) (w : World) (h1 : 0 ≤ rd ∧ rd ≤ 8589934592) (h2 : 0 ≤ rn ∧ rn ≤ 8589934592) (h3 : 0 ≤ rm ∧ rm ≤ 8589934592) (h4 : 0 ≤ ra ∧ ra ≤ 8589934592) (h5 : 0 ≤ imm ∧ imm ≤ 8589934592) (h6 : 0 ≤ cond ∧ cond ≤ 8589934592) (h7 : 0 ≤ bit ∧ bit ≤ 1) :
    Calls Try.prog 59 #[.agg #[.int .i64 op, .int .i64 rd, .int .i64 rn, .int .i64 rm, .int .i64 ra, .int .i64 imm, .int .i64 cond, .bool wide], .int .u8 121, .int .i64 bit, .pointer (some ⟨b, 0, none⟩)] w fun e w' => e = .returned (.agg #[.int .i64 op, .int .i64 rd, .int .i64 rn, .int .i64 rm, .int .i64 ra, .int .i64 imm, .int .i64 cond, .bool wide]) ∧ Below w.heap.size w w' := by
  obtain ⟨h1a, h1b⟩ := h1
  obtain ⟨h2a, h2b⟩ := h2
  obtain ⟨h3a, h3b⟩ := h3
  obtain ⟨h4a, h4b⟩ := h4
  obtain ⟨h5a, h5b⟩ := h5
  obtain ⟨h6a, h6b⟩ := h6
  obtain ⟨h7a, h7b⟩ := h7
  go_enter Try.func59, Try.ntmps59
  go_wp2
  exact bodyPost_ret (v := .agg #[.int .i64 op, .int .i64 rd, .int .i64 rn, .int .i64 rm, .int .i64 ra, .int .i64 imm, .int .i64 cond, .bool wide]) (by simp [results, Try.results59, go_sem]) rfl ⟨rfl, by go_grown⟩
set_option maxHeartbeats 4000000 in
theorem tk_0 (op rd rn rm ra imm cond : Int) (wide : Bool) (bit : Int) (b : Nat) (w : World) (h1 : 0 ≤ rd ∧ rd ≤ 8589934592) (h2 : 0 ≤ rn ∧ rn ≤ 8589934592) (h3 : 0 ≤ rm ∧ rm ≤ 8589934592) (h4 : 0 ≤ ra ∧ ra ≤ 8589934592) (h5 : 0 ≤ imm ∧ imm ≤ 8589934592) (h6 : 0 ≤ cond ∧ cond ≤ 8589934592) (h7 : 0 ≤ bit ∧ bit ≤ 1) :
    Calls Try.prog 59 #[.agg #[.int .i64 op, .int .i64 rd, .int .i64 rn, .int .i64 rm, .int .i64 ra, .int .i64 imm, .int .i64 cond, .bool wide], .int .u8 48, .int .i64 bit, .pointer (some ⟨b, 0, none⟩)] w fun e w' => e = .returned (.agg #[.int .i64 op, .int .i64 rd, .int .i64 rn, .int .i64 rm, .int .i64 ra, .int .i64 imm, .int .i64 cond, .bool wide]) ∧ Below w.heap.size w w' := by
  obtain ⟨h1a, h1b⟩ := h1
  obtain ⟨h2a, h2b⟩ := h2
  obtain ⟨h3a, h3b⟩ := h3
  obtain ⟨h4a, h4b⟩ := h4
  obtain ⟨h5a, h5b⟩ := h5
  obtain ⟨h6a, h6b⟩ := h6
  obtain ⟨h7a, h7b⟩ := h7
  go_enter Try.func59, Try.ntmps59
  go_wp2
  exact bodyPost_ret (v := .agg #[.int .i64 op, .int .i64 rd, .int .i64 rn, .int .i64 rm, .int .i64 ra, .int .i64 imm, .int .i64 cond, .bool wide]) (by simp [results, Try.results59, go_sem]) rfl ⟨rfl, by go_grown⟩
set_option maxHeartbeats 4000000 in
theorem tk_1 (op rd rn rm ra imm cond : Int) (wide : Bool) (bit : Int) (b : Nat) (w : World) (h1 : 0 ≤ rd ∧ rd ≤ 8589934592) (h2 : 0 ≤ rn ∧ rn ≤ 8589934592) (h3 : 0 ≤ rm ∧ rm ≤ 8589934592) (h4 : 0 ≤ ra ∧ ra ≤ 8589934592) (h5 : 0 ≤ imm ∧ imm ≤ 8589934592) (h6 : 0 ≤ cond ∧ cond ≤ 8589934592) (h7 : 0 ≤ bit ∧ bit ≤ 1) :
    Calls Try.prog 59 #[.agg #[.int .i64 op, .int .i64 rd, .int .i64 rn, .int .i64 rm, .int .i64 ra, .int .i64 imm, .int .i64 cond, .bool wide], .int .u8 49, .int .i64 bit, .pointer (some ⟨b, 0, none⟩)] w fun e w' => e = .returned (.agg #[.int .i64 op, .int .i64 rd, .int .i64 rn, .int .i64 rm, .int .i64 ra, .int .i64 imm, .int .i64 cond, .bool wide]) ∧ Below w.heap.size w w' := by
  obtain ⟨h1a, h1b⟩ := h1
  obtain ⟨h2a, h2b⟩ := h2
  obtain ⟨h3a, h3b⟩ := h3
  obtain ⟨h4a, h4b⟩ := h4
  obtain ⟨h5a, h5b⟩ := h5
  obtain ⟨h6a, h6b⟩ := h6
  obtain ⟨h7a, h7b⟩ := h7
  go_enter Try.func59, Try.ntmps59
  go_wp2
  exact bodyPost_ret (v := .agg #[.int .i64 op, .int .i64 rd, .int .i64 rn, .int .i64 rm, .int .i64 ra, .int .i64 imm, .int .i64 cond, .bool wide]) (by simp [results, Try.results59, go_sem]) rfl ⟨rfl, by go_grown⟩
set_option maxHeartbeats 4000000 in
theorem tk_up (op rd rn rm ra imm cond : Int) (wide : Bool) (bit : Int) (b : Nat) (w : World) (h1 : 0 ≤ rd ∧ rd ≤ 8589934592) (h2 : 0 ≤ rn ∧ rn ≤ 8589934592) (h3 : 0 ≤ rm ∧ rm ≤ 8589934592) (h4 : 0 ≤ ra ∧ ra ≤ 8589934592) (h5 : 0 ≤ imm ∧ imm ≤ 8589934592) (h6 : 0 ≤ cond ∧ cond ≤ 8589934592) (h7 : 0 ≤ bit ∧ bit ≤ 1) (z : Nat) (z0 : 65 ≤ z) (z1 : z ≤ 90) :
    Calls Try.prog 59 #[.agg #[.int .i64 op, .int .i64 rd, .int .i64 rn, .int .i64 rm, .int .i64 ra, .int .i64 imm, .int .i64 cond, .bool wide], .int .u8 (z : Int), .int .i64 bit, .pointer (some ⟨b, 0, none⟩)] w fun e w' => e = .returned (.agg #[.int .i64 op, .int .i64 rd, .int .i64 rn, .int .i64 rm, .int .i64 ra, .int .i64 (imm + bit * 2 ^ (z - 65)), .int .i64 cond, .bool wide]) ∧ Below w.heap.size w w' := by
  obtain ⟨h1a, h1b⟩ := h1
  obtain ⟨h2a, h2b⟩ := h2
  obtain ⟨h3a, h3b⟩ := h3
  obtain ⟨h4a, h4b⟩ := h4
  obtain ⟨h5a, h5b⟩ := h5
  obtain ⟨h6a, h6b⟩ := h6
  obtain ⟨h7a, h7b⟩ := h7
  have p0 := pw_bd (z - 65) (by omega)
  have p1 : (2 : Int) ^ (z - 65) ≤ 33554432 := by
    rw [Wd.pow_cast]
    have : (2 : Nat) ^ (z - 65) ≤ 2 ^ 25 := Nat.pow_le_pow_right (by decide) (by omega)
    omega
  have u1 : IntKind.u8.wrap ((z : Int) - 65) = ((z - 65 : Nat) : Int) := by rw [IntKind.wrap_u8]; omega
  have u2 : IntKind.i64.wrap ((z - 65 : Nat) : Int) = ((z - 65 : Nat) : Int) := IntWalk.i64_in _ (by omega)
  have hp := power_any (z - 65)
  generalize (2 : Int) ^ (z - 65) = P at *
  have bb : 0 ≤ bit * P ∧ bit * P ≤ 33554432 := by
    rcases (by omega : bit = 0 ∨ bit = 1) with rfl | rfl <;> omega
  have u3 : IntKind.i64.wrap (bit * P) = bit * P := IntWalk.i64_in _ (by omega)
  have u4 : IntKind.i64.wrap (imm + bit * P) = imm + bit * P := IntWalk.i64_in _ (by omega)
  have hz : z - 65 ≤ 60 := by omega
  have HP := Lib.hid hp
  generalize hk : z - 65 = k at *
  have HK := Lib.hid hk
  clear hk hp p0 p1
  go_enter Try.func59, Try.ntmps59
  go_wp2
  go_region_with ((go_at_call 61; refine (HP.out _ hz).mono ?_; rintro e w' ⟨rfl, rfl⟩))
  all_goals
    go_wp2
    exact bodyPost_ret (v := .agg #[.int .i64 op, .int .i64 rd, .int .i64 rn, .int .i64 rm, .int .i64 ra, .int .i64 (imm + bit * P), .int .i64 cond, .bool wide]) (by simp [results, Try.results59, go_sem]) rfl ⟨rfl, by (go_grown; (try (refine below_drewN ?_ _; go_grown)))⟩
set_option maxHeartbeats 4000000 in
theorem tk_w (op rd rn rm ra imm cond : Int) (wide : Bool) (bit : Int) (b : Nat) (w : World) (h1 : 0 ≤ rd ∧ rd ≤ 8589934592) (h2 : 0 ≤ rn ∧ rn ≤ 8589934592) (h3 : 0 ≤ rm ∧ rm ≤ 8589934592) (h4 : 0 ≤ ra ∧ ra ≤ 8589934592) (h5 : 0 ≤ imm ∧ imm ≤ 8589934592) (h6 : 0 ≤ cond ∧ cond ≤ 8589934592) (h7 : 0 ≤ bit ∧ bit ≤ 1) (W : Int) (hW : 0 ≤ W ∧ W ≤ 8589934592) (hc : w.cell? ⟨b, 0, none⟩ = some (.int .i64 W)) (hf : w.frozen? ⟨b, 0, none⟩ = false) (hb : b < w.heap.size) :
    Calls Try.prog 59 #[.agg #[.int .i64 op, .int .i64 rd, .int .i64 rn, .int .i64 rm, .int .i64 ra, .int .i64 imm, .int .i64 cond, .bool wide], .int .u8 119, .int .i64 bit, .pointer (some ⟨b, 0, none⟩)] w fun e w' => e = .returned (.agg #[.int .i64 op, .int .i64 rd, .int .i64 rn, .int .i64 rm, .int .i64 ra, .int .i64 imm, .int .i64 cond, .bool wide]) ∧ Below b w w' ∧ w'.cell? ⟨b, 0, none⟩ = some (.int .i64 (2 * W + bit)) ∧ w'.frozen? ⟨b, 0, none⟩ = false ∧ b < w'.heap.size := by
  obtain ⟨h1a, h1b⟩ := h1
  obtain ⟨h2a, h2b⟩ := h2
  obtain ⟨h3a, h3b⟩ := h3
  obtain ⟨h4a, h4b⟩ := h4
  obtain ⟨h5a, h5b⟩ := h5
  obtain ⟨h6a, h6b⟩ := h6
  obtain ⟨h7a, h7b⟩ := h7
  obtain ⟨hWa, hWb⟩ := hW
  have hne : ¬ b = w.heap.size := by omega
  have hne2 : ¬ b = w.heap.size + 1 := by omega
  go_enter Try.func59, Try.ntmps59
  go_wp2
  refine bodyPost_ret (v := .agg #[.int .i64 op, .int .i64 rd, .int .i64 rn, .int .i64 rm, .int .i64 ra, .int .i64 imm, .int .i64 cond, .bool wide]) (by simp [results, Try.results59, go_sem]) rfl ⟨rfl, ?_, ?_, ?_, ?_⟩
  · exact (((Below.refl b w).setCell (by simp) _).alloc (by simp; omega) _).alloc (by simp; omega) _
  · simp [go_sem, hc, hb]
  · simp [go_sem, hf, hb]
  · simp; omega
end Go.Proofs.Ytdefgliogmlghaa
end
section
namespace Go.Proofs.Ytdefgliogmlghaa
open Go.ChangeShapes Go.WideShapes Go.ChangeAt Go.RowKit
set_option linter.unusedVariables false

/-- all below a block is as it was, and it holds a number -/
def Kept (b : Nat) (w w' : World) (W : Nat) : Prop := Below b w w' ∧ w'.cell? ⟨b, 0, none⟩ = some (.int .i64 (W : Int)) ∧ w'.frozen? ⟨b, 0, none⟩ = false ∧ b < w'.heap.size
theorem kept_of {b : Nat} {w w' : World} {W : Nat} (hb : Below w.heap.size w w') (hc : w.cell? ⟨b, 0, none⟩ = some (.int .i64 (W : Int))) (hf : w.frozen? ⟨b, 0, none⟩ = false) (hlt : b < w.heap.size) : Kept b w w' W := by
  refine ⟨hb.mono (by omega), ?_, ?_, ?_⟩
  · rw [hb.cell (p := ⟨b, 0, none⟩) hlt]; exact hc
  · rw [hb.frozen (p := ⟨b, 0, none⟩) hlt]; exact hf
  · have := hb.size; omega
theorem bd_le (n k : Nat) (h : n < 2 ^ k) (hk : k ≤ 32) : (0 : Int) ≤ (n : Int) ∧ (n : Int) ≤ 8589934592 := by
  have : (2 : Nat) ^ k ≤ 2 ^ 32 := Nat.pow_le_pow_right (by decide) hk
  omega
theorem taken_any (op : Int) (wide : Bool) (s : De.Stt) (k : Nat) (c : UInt8) (bit b : Nat) (w : World) (hB : s.Bd k) (hk : k ≤ 32) (hbit : bit < 2) (hL : Letter c) (hc : w.cell? ⟨b, 0, none⟩ = some (.int .i64 (s.w : Int))) (hf : w.frozen? ⟨b, 0, none⟩ = false) (hlt : b < w.heap.size) :
    Calls Try.prog 59 #[.agg #[.int .i64 op, .int .i64 ((s).rd : Int), .int .i64 ((s).rn : Int), .int .i64 ((s).rm : Int), .int .i64 ((s).ra : Int), .int .i64 ((s).imm : Int), .int .i64 ((s).cond : Int), .bool wide], .int .u8 (c.toNat : Int), .int .i64 (bit : Int), .pointer (some ⟨b, 0, none⟩)] w fun e w' => e = .returned (.agg #[.int .i64 op, .int .i64 ((s.step c bit).rd : Int), .int .i64 ((s.step c bit).rn : Int), .int .i64 ((s.step c bit).rm : Int), .int .i64 ((s.step c bit).ra : Int), .int .i64 ((s.step c bit).imm : Int), .int .i64 ((s.step c bit).cond : Int), .bool wide]) ∧ Kept b w w' (s.step c bit).w := by
  obtain ⟨g1, g2, g3, g4, g5, g6, g7, g8, g9, g10⟩ := hB
  have a1 := bd_le _ _ g1 hk
  have a2 := bd_le _ _ g2 hk
  have a3 := bd_le _ _ g3 hk
  have a4 := bd_le _ _ g4 hk
  have a5 := bd_le _ _ g5 hk
  have a6 := bd_le _ _ g6 hk
  have a7 : (0 : Int) ≤ (s.imm : Int) ∧ (s.imm : Int) ≤ 8589934592 := by
    have : k * 33554432 ≤ 32 * 33554432 := Nat.mul_le_mul_right _ hk
    omega
  have a8 : (0 : Int) ≤ (bit : Int) ∧ (bit : Int) ≤ 1 := by omega
  rcases hL with rfl | rfl | rfl | rfl | rfl | rfl | rfl | rfl | rfl | rfl | ⟨z0, z1⟩
  · refine (tk_0 op _ _ _ _ _ _ wide _ b w a1 a2 a3 a4 a7 a5 a8).mono ?_
    rintro e w' ⟨rfl, hb⟩
    refine ⟨?_, kept_of hb hc hf hlt⟩
    rfl
  · refine (tk_1 op _ _ _ _ _ _ wide _ b w a1 a2 a3 a4 a7 a5 a8).mono ?_
    rintro e w' ⟨rfl, hb⟩
    refine ⟨?_, kept_of hb hc hf hlt⟩
    rfl
  · refine (tk_d op _ _ _ _ _ _ wide _ b w a1 a2 a3 a4 a7 a5 a8).mono ?_
    rintro e w' ⟨rfl, hb⟩
    refine ⟨?_, kept_of hb hc hf hlt⟩
    show _ = Ending.returned (.agg #[.int .i64 op, .int .i64 ((2 * s.rd + bit : Nat) : Int), .int .i64 (s.rn : Int), .int .i64 (s.rm : Int), .int .i64 (s.ra : Int), .int .i64 (s.imm : Int), .int .i64 (s.cond : Int), .bool wide])
    rw [show ((2 * s.rd + bit : Nat) : Int) = 2 * (s.rd : Int) + (bit : Int) by omega]
  · refine (tk_n op _ _ _ _ _ _ wide _ b w a1 a2 a3 a4 a7 a5 a8).mono ?_
    rintro e w' ⟨rfl, hb⟩
    refine ⟨?_, kept_of hb hc hf hlt⟩
    show _ = Ending.returned (.agg #[.int .i64 op, .int .i64 (s.rd : Int), .int .i64 ((2 * s.rn + bit : Nat) : Int), .int .i64 (s.rm : Int), .int .i64 (s.ra : Int), .int .i64 (s.imm : Int), .int .i64 (s.cond : Int), .bool wide])
    rw [show ((2 * s.rn + bit : Nat) : Int) = 2 * (s.rn : Int) + (bit : Int) by omega]
  · refine (tk_m op _ _ _ _ _ _ wide _ b w a1 a2 a3 a4 a7 a5 a8).mono ?_
    rintro e w' ⟨rfl, hb⟩
    refine ⟨?_, kept_of hb hc hf hlt⟩
    show _ = Ending.returned (.agg #[.int .i64 op, .int .i64 (s.rd : Int), .int .i64 (s.rn : Int), .int .i64 ((2 * s.rm + bit : Nat) : Int), .int .i64 (s.ra : Int), .int .i64 (s.imm : Int), .int .i64 (s.cond : Int), .bool wide])
    rw [show ((2 * s.rm + bit : Nat) : Int) = 2 * (s.rm : Int) + (bit : Int) by omega]
  · refine (tk_a op _ _ _ _ _ _ wide _ b w a1 a2 a3 a4 a7 a5 a8).mono ?_
    rintro e w' ⟨rfl, hb⟩
    refine ⟨?_, kept_of hb hc hf hlt⟩
    show _ = Ending.returned (.agg #[.int .i64 op, .int .i64 (s.rd : Int), .int .i64 (s.rn : Int), .int .i64 (s.rm : Int), .int .i64 ((2 * s.ra + bit : Nat) : Int), .int .i64 (s.imm : Int), .int .i64 (s.cond : Int), .bool wide])
    rw [show ((2 * s.ra + bit : Nat) : Int) = 2 * (s.ra : Int) + (bit : Int) by omega]
  · refine (tk_c op _ _ _ _ _ _ wide _ b w a1 a2 a3 a4 a7 a5 a8).mono ?_
    rintro e w' ⟨rfl, hb⟩
    refine ⟨?_, kept_of hb hc hf hlt⟩
    show _ = Ending.returned (.agg #[.int .i64 op, .int .i64 (s.rd : Int), .int .i64 (s.rn : Int), .int .i64 (s.rm : Int), .int .i64 (s.ra : Int), .int .i64 (s.imm : Int), .int .i64 ((2 * s.cond + bit : Nat) : Int), .bool wide])
    rw [show ((2 * s.cond + bit : Nat) : Int) = 2 * (s.cond : Int) + (bit : Int) by omega]
  · refine (tk_w op _ _ _ _ _ _ wide _ b w a1 a2 a3 a4 a7 a5 a8 (s.w : Int) a6 hc hf hlt).mono ?_
    rintro e w' ⟨rfl, k1, k2, k3, k4⟩
    refine ⟨rfl, k1, ?_, k3, k4⟩
    rw [k2]
    show _ = some (Value.int .i64 ((2 * s.w + bit : Nat) : Int))
    rw [show ((2 * s.w + bit : Nat) : Int) = 2 * (s.w : Int) + (bit : Int) by omega]
  · refine (tk_x op _ _ _ _ _ _ wide _ b w a1 a2 a3 a4 a7 a5 a8).mono ?_
    rintro e w' ⟨rfl, hb⟩
    refine ⟨?_, kept_of hb hc hf hlt⟩
    rfl
  · refine (tk_y op _ _ _ _ _ _ wide _ b w a1 a2 a3 a4 a7 a5 a8).mono ?_
    rintro e w' ⟨rfl, hb⟩
    refine ⟨?_, kept_of hb hc hf hlt⟩
    rfl
  · have q : ∀ d : UInt8, d.toNat < 65 ∨ 90 < d.toNat → (c == d) = false := fun d hd => by
      rw [beq_eq_false_iff_ne]; rintro rfl; omega
    have e : s.step c bit = { s with imm := s.imm + bit * 2 ^ (c.toNat - 65), t := if c == 89 then bit else s.t } := by
      unfold De.Stt.step
      rw [q 48 (by decide), q 49 (by decide), q 100 (by decide), q 110 (by decide), q 109 (by decide), q 97 (by decide), q 99 (by decide), q 119 (by decide), q 120 (by decide), q 121 (by decide)]
      rfl
    refine (tk_up op _ _ _ _ _ _ wide _ b w a1 a2 a3 a4 a7 a5 a8 c.toNat z0 z1).mono ?_
    rintro e' w' ⟨rfl, hb⟩
    rw [e]
    refine ⟨?_, kept_of hb hc hf hlt⟩
    show _ = Ending.returned (.agg #[.int .i64 op, .int .i64 (s.rd : Int), .int .i64 (s.rn : Int), .int .i64 (s.rm : Int), .int .i64 (s.ra : Int), .int .i64 ((s.imm + bit * 2 ^ (c.toNat - 65) : Nat) : Int), .int .i64 (s.cond : Int), .bool wide])
    rw [show ((s.imm + bit * 2 ^ (c.toNat - 65) : Nat) : Int) = (s.imm : Int) + (bit : Int) * 2 ^ (c.toNat - 65) by rw [Wd.pow_cast, Int.natCast_add, Int.natCast_mul]]
end Go.Proofs.Ytdefgliogmlghaa
end
section
namespace Go.Proofs.Ytdefgliogmlghaa
open Go.ChangeShapes Go.WideShapes Go.ChangeAt Go.RowKit
set_option linter.unusedVariables false

set_option maxHeartbeats 4000000 in
theorem rread_len (op : Int) (wide : Bool) (S : ByteArray) (w : World) (h : ¬ (Th.rbits op wide).size = S.size) :
    Calls Try.prog 33 #[.int .i64 op, .bool wide, .string S] w fun e w' => e = .returned (.tuple #[.agg #[.int .i64 0, .int .i64 0, .int .i64 0, .int .i64 0, .int .i64 0, .int .i64 0, .int .i64 0, .bool false], .bool false]) ∧ Below w.heap.size w w' := by
  generalize hB : Th.rbits op wide = B at h
  have HB := Lib.hid hB
  have q1 : ((B.size : Int) != (S.size : Int)) = true := by simp; omega
  have q2 : (B.size != S.size) = true := by simpa using h
  clear hB h
  go_enter Try.func33, Try.ntmps33
  go_wp2_with (go_at_call 58; refine (rbits_any _ _ _).mono ?_; rintro e w' ⟨rfl, rfl⟩; rw [HB.out])
  exact bodyPost_ret (v := .tuple #[.agg #[.int .i64 0, .int .i64 0, .int .i64 0, .int .i64 0, .int .i64 0, .int .i64 0, .int .i64 0, .bool false], .bool false]) (by simp [results, Try.results33, go_sem]) rfl ⟨rfl, by go_grown⟩
/-- what the letters from k on make of what is gathered is what all make of nothing -/
def RunK (x : Nat) (L : List UInt8) (k : Nat) (s : De.Stt) : Prop := De.Stt.run x s (L.drop k) = De.Stt.run x De.Stt.zero L ∧ De.okL x (L.drop k) = De.okL x L
theorem RunK.start (x : Nat) (L : List UInt8) : RunK x L 0 De.Stt.zero := ⟨rfl, rfl⟩
/-- where all lies while it is read -/
def Mem (op : Int) (wide : Bool) (w : World) (r : Nat) (s : De.Stt) (wr : World) : Prop :=
  Below r w wr ∧ InsAt wr r 0 0 0 0 0 0 0 false ∧ Open8 wr r ∧ InsAt wr (r + 1) op (s.rd : Int) (s.rn : Int) (s.rm : Int) (s.ra : Int) (s.imm : Int) (s.cond : Int) wide ∧ Open8 wr (r + 1) ∧ wr.cell? ⟨r + 1 + 1, 0, none⟩ = some (.int .i64 (s.w : Int)) ∧ wr.frozen? ⟨r + 1 + 1, 0, none⟩ = false ∧ r + 1 + 1 < wr.heap.size
theorem Mem.drewN {op : Int} {wide : Bool} {w : World} {r : Nat} {s : De.Stt} {wr : World} (h : Mem op wide w r s wr) (n : Nat) : Mem op wide w r s (wr.drewN n) := by
  obtain ⟨h1, h2, h3, h4, h5, h6, h7, h8⟩ := h
  exact ⟨below_drewN h1 n, h2, h3, h4, h5, h6, h7, h8⟩
theorem mem_start (op : Int) (wide : Bool) (w : World) : Mem op wide w w.heap.size De.Stt.zero (((w.alloc (.cells #[.int .i64 0, .int .i64 0, .int .i64 0, .int .i64 0, .int .i64 0, .int .i64 0, .int .i64 0, .bool false] 23)).alloc (.cells #[.int .i64 op, .int .i64 0, .int .i64 0, .int .i64 0, .int .i64 0, .int .i64 0, .int .i64 0, .bool wide] 23)).alloc (.cells #[.int .i64 0] 3)) := by
  generalize hW : w.alloc (.cells #[.int .i64 0, .int .i64 0, .int .i64 0, .int .i64 0, .int .i64 0, .int .i64 0, .int .i64 0, .bool false] 23) = W1
  have s1 : W1.heap.size = w.heap.size + 1 := by rw [← hW]; simp
  have i1 : InsAt W1 w.heap.size 0 0 0 0 0 0 0 false := by rw [← hW]; exact ins_alloc _ _ _ _ _ _ _ _ _ _
  have o1 : Open8 W1 w.heap.size := by rw [← hW]; exact open_alloc _ _ _
  have b1 : Below w.heap.size w W1 := by rw [← hW]; exact (Below.refl _ _).alloc (Nat.le_refl _) _
  clear hW
  have i2 := ins_alloc W1 23 op 0 0 0 0 0 0 wide
  have o2 : Open8 (W1.alloc (.cells #[.int .i64 op, .int .i64 0, .int .i64 0, .int .i64 0, .int .i64 0, .int .i64 0, .int .i64 0, .bool wide] 23)) W1.heap.size := open_alloc _ _ _
  have i1' := i1.alloc (by omega) (.cells #[.int .i64 op, .int .i64 0, .int .i64 0, .int .i64 0, .int .i64 0, .int .i64 0, .int .i64 0, .bool wide] 23)
  have o1' : Open8 (W1.alloc (.cells #[.int .i64 op, .int .i64 0, .int .i64 0, .int .i64 0, .int .i64 0, .int .i64 0, .int .i64 0, .bool wide] 23)) w.heap.size := o1.below ((Below.refl _ _).alloc (Nat.le_refl _) _) (by omega)
  have b2 := b1.alloc (by omega) (.cells #[.int .i64 op, .int .i64 0, .int .i64 0, .int .i64 0, .int .i64 0, .int .i64 0, .int .i64 0, .bool wide] 23)
  rw [s1] at i2 o2
  generalize hV : W1.alloc (.cells #[.int .i64 op, .int .i64 0, .int .i64 0, .int .i64 0, .int .i64 0, .int .i64 0, .int .i64 0, .bool wide] 23) = W2 at *
  have s2 : W2.heap.size = w.heap.size + 1 + 1 := by rw [← hV]; simp [s1]
  clear hV
  refine ⟨b2.alloc (by omega) _, i1'.alloc (by omega) _, o1'.below ((Below.refl _ _).alloc (Nat.le_refl _) _) (by omega), i2.alloc (by omega) _, o2.below ((Below.refl _ _).alloc (Nat.le_refl _) _) (by omega), ?_, ?_, ?_⟩
  · rw [← s2]; simp [go_sem]; rfl
  · rw [← s2]; simp [go_sem]
  · simp [s2]
theorem put8 (V : World) (b : Nat) (op rd rn rm ra imm cond : Int) (wide : Bool) (op' rd' rn' rm' ra' imm' cond' : Int) (wide' : Bool) (h : InsAt V b op' rd' rn' rm' ra' imm' cond' wide') :
    InsAt ((((((((V.setCell ⟨b, 0, none⟩ (.int .i64 op)).setCell ⟨b, 1, none⟩ (.int .i64 rd)).setCell ⟨b, 2, none⟩ (.int .i64 rn)).setCell ⟨b, 3, none⟩ (.int .i64 rm)).setCell ⟨b, 4, none⟩ (.int .i64 ra)).setCell ⟨b, 5, none⟩ (.int .i64 imm)).setCell ⟨b, 6, none⟩ (.int .i64 cond)).setCell ⟨b, 7, none⟩ (.bool wide)) b op rd rn rm ra imm cond wide := by
  obtain ⟨c0, c1, c2, c3, c4, c5, c6, c7⟩ := h
  refine ⟨?_, ?_, ?_, ?_, ?_, ?_, ?_, ?_⟩ <;> simp [go_sem, c0, c1, c2, c3, c4, c5, c6, c7]
theorem put8_cell (V : World) (b : Nat) (op rd rn rm ra imm cond : Int) (wide : Bool) (a o : Nat) (hne : ¬ a = b) : ((((((((V.setCell ⟨b, 0, none⟩ (.int .i64 op)).setCell ⟨b, 1, none⟩ (.int .i64 rd)).setCell ⟨b, 2, none⟩ (.int .i64 rn)).setCell ⟨b, 3, none⟩ (.int .i64 rm)).setCell ⟨b, 4, none⟩ (.int .i64 ra)).setCell ⟨b, 5, none⟩ (.int .i64 imm)).setCell ⟨b, 6, none⟩ (.int .i64 cond)).setCell ⟨b, 7, none⟩ (.bool wide)).cell? ⟨a, o, none⟩ = V.cell? ⟨a, o, none⟩ := by
  simp [go_sem]
theorem put8_frozen (V : World) (b : Nat) (op rd rn rm ra imm cond : Int) (wide : Bool) (p : Addr) : ((((((((V.setCell ⟨b, 0, none⟩ (.int .i64 op)).setCell ⟨b, 1, none⟩ (.int .i64 rd)).setCell ⟨b, 2, none⟩ (.int .i64 rn)).setCell ⟨b, 3, none⟩ (.int .i64 rm)).setCell ⟨b, 4, none⟩ (.int .i64 ra)).setCell ⟨b, 5, none⟩ (.int .i64 imm)).setCell ⟨b, 6, none⟩ (.int .i64 cond)).setCell ⟨b, 7, none⟩ (.bool wide)).frozen? p = V.frozen? p := by
  simp [go_sem]
theorem put8_size (V : World) (b : Nat) (op rd rn rm ra imm cond : Int) (wide : Bool) : ((((((((V.setCell ⟨b, 0, none⟩ (.int .i64 op)).setCell ⟨b, 1, none⟩ (.int .i64 rd)).setCell ⟨b, 2, none⟩ (.int .i64 rn)).setCell ⟨b, 3, none⟩ (.int .i64 rm)).setCell ⟨b, 4, none⟩ (.int .i64 ra)).setCell ⟨b, 5, none⟩ (.int .i64 imm)).setCell ⟨b, 6, none⟩ (.int .i64 cond)).setCell ⟨b, 7, none⟩ (.bool wide)).heap.size = V.heap.size := by
  simp [go_sem]
theorem put8_below (V W : World) (b r : Nat) (op rd rn rm ra imm cond : Int) (wide : Bool) (h : Below r W V) (hr : r ≤ b) : Below r W ((((((((V.setCell ⟨b, 0, none⟩ (.int .i64 op)).setCell ⟨b, 1, none⟩ (.int .i64 rd)).setCell ⟨b, 2, none⟩ (.int .i64 rn)).setCell ⟨b, 3, none⟩ (.int .i64 rm)).setCell ⟨b, 4, none⟩ (.int .i64 ra)).setCell ⟨b, 5, none⟩ (.int .i64 imm)).setCell ⟨b, 6, none⟩ (.int .i64 cond)).setCell ⟨b, 7, none⟩ (.bool wide)) := by
  iterate 8 (refine Below.setCell ?_ (by simpa using hr) _)
  exact h
theorem Mem.step {op : Int} {wide : Bool} {w : World} {r : Nat} {s s' : De.Stt} {wr V : World} (h : Mem op wide w r s wr) (k : Kept (r + 1 + 1) wr V s'.w) : Mem op wide w r s' ((((((((V.setCell ⟨r + 1, 0, none⟩ (.int .i64 op)).setCell ⟨r + 1, 1, none⟩ (.int .i64 (s'.rd : Int))).setCell ⟨r + 1, 2, none⟩ (.int .i64 (s'.rn : Int))).setCell ⟨r + 1, 3, none⟩ (.int .i64 (s'.rm : Int))).setCell ⟨r + 1, 4, none⟩ (.int .i64 (s'.ra : Int))).setCell ⟨r + 1, 5, none⟩ (.int .i64 (s'.imm : Int))).setCell ⟨r + 1, 6, none⟩ (.int .i64 (s'.cond : Int))).setCell ⟨r + 1, 7, none⟩ (.bool wide)) := by
  obtain ⟨h1, h2, h3, h4, h5, h6, h7, h8⟩ := h
  obtain ⟨k1, k2, k3, k4⟩ := k
  have cl : ∀ a o, a < r + 1 + 1 → V.cell? ⟨a, o, none⟩ = wr.cell? ⟨a, o, none⟩ := fun a o ha => k1.cell (p := ⟨a, o, none⟩) ha
  have fz : ∀ a o, a < r + 1 + 1 → V.frozen? ⟨a, o, none⟩ = wr.frozen? ⟨a, o, none⟩ := fun a o ha => k1.frozen (p := ⟨a, o, none⟩) ha
  have i4 : InsAt V (r + 1) op (s.rd : Int) (s.rn : Int) (s.rm : Int) (s.ra : Int) (s.imm : Int) (s.cond : Int) wide := by
    obtain ⟨a0, a1, a2, a3, a4, a5, a6, a7⟩ := h4
    refine ⟨?_, ?_, ?_, ?_, ?_, ?_, ?_, ?_⟩ <;> (rw [cl _ _ (by omega)]; assumption)
  have i2 : InsAt V r 0 0 0 0 0 0 0 false := by
    obtain ⟨a0, a1, a2, a3, a4, a5, a6, a7⟩ := h2
    refine ⟨?_, ?_, ?_, ?_, ?_, ?_, ?_, ?_⟩ <;> (rw [cl _ _ (by omega)]; assumption)
  refine ⟨put8_below _ _ _ _ _ _ _ _ _ _ _ _ (h1.trans (k1.mono (by omega))) (by omega), ?_, ?_, put8 _ _ _ _ _ _ _ _ _ _ _ _ _ _ _ _ _ _ i4, ?_, ?_, ?_, ?_⟩
  · obtain ⟨a0, a1, a2, a3, a4, a5, a6, a7⟩ := i2
    refine ⟨?_, ?_, ?_, ?_, ?_, ?_, ?_, ?_⟩ <;> (rw [put8_cell _ _ _ _ _ _ _ _ _ _ _ _ (by omega)]; assumption)
  · intro o; rw [put8_frozen, fz _ _ (by omega)]; exact h3 o
  · intro o; rw [put8_frozen, fz _ _ (by omega)]; exact h5 o
  · rw [put8_cell _ _ _ _ _ _ _ _ _ _ _ _ (by omega)]; exact k2
  · rw [put8_frozen]; exact k3
  · rw [put8_size]; exact k4
theorem ins_kept {wr V : World} {r W : Nat} {op rd rn rm ra imm cond : Int} {wide : Bool} (k : Kept (r + 1 + 1) wr V W) (h : InsAt wr (r + 1) op rd rn rm ra imm cond wide) : InsAt V (r + 1) op rd rn rm ra imm cond wide := by
  obtain ⟨a0, a1, a2, a3, a4, a5, a6, a7⟩ := h
  refine ⟨?_, ?_, ?_, ?_, ?_, ?_, ?_, ?_⟩ <;> (rw [k.1.cell (by show r + 1 < r + 1 + 1; omega)]; assumption)
theorem open_kept {wr V : World} {r W : Nat} (k : Kept (r + 1 + 1) wr V W) (h : Open8 wr (r + 1)) : ∀ o, V.frozen? ⟨r + 1, o, none⟩ = false := fun o => by
  rw [k.1.frozen (p := ⟨r + 1, o, none⟩) (by show r + 1 < r + 1 + 1; omega)]; exact h o
theorem tstT {c : UInt8} {d : UInt8} {D : Int} (hD : (d.toNat : Int) = D) (h : c = d) : ((c.toNat : Int) == D) = true := by rw [h, hD]; simp
theorem tstF {c : UInt8} {d : UInt8} {D : Int} (hD : (d.toNat : Int) = D) (h : ¬ c = d) : ((c.toNat : Int) == D) = false := by
  rw [← hD, beq_eq_false_iff_ne]; intro e; exact h (UInt8.toNat_inj.1 (Int.ofNat_inj.1 e))
theorem drop_cons (B : ByteArray) (k : Nat) (hk : k < B.size) : B.data.toList.drop k = B[k] :: B.data.toList.drop (k + 1) := by
  have hl : k < B.data.toList.length := by simpa using hk
  rw [List.drop_eq_getElem_cons hl]
  congr 1
theorem drop_len (B : ByteArray) (k n : Nat) (hn : B.size = n) : (B.data.toList.drop (k + 1)).length = n - 1 - k := by
  rw [List.length_drop]
  have : B.data.toList.length = B.size := by simp
  omega
theorem RunK.step {x n : Nat} {B : ByteArray} {k : Nat} {s : De.Stt} (h : RunK x B.data.toList k s) (hk : k < B.size) (hn : B.size = n) (hok : (if B[k] == 48 then x / 2 ^ (n - 1 - k) % 2 == 0 else if B[k] == 49 then x / 2 ^ (n - 1 - k) % 2 == 1 else true) = true) :
    RunK x B.data.toList (k + 1) (s.step B[k] (x / 2 ^ (n - 1 - k) % 2)) := by
  obtain ⟨h1, h2⟩ := h
  rw [drop_cons B k hk, De.Stt.run, drop_len B k n hn] at h1
  rw [drop_cons B k hk, De.okL, drop_len B k n hn, hok, Bool.true_and] at h2
  exact ⟨h1, h2⟩
theorem RunK.bad {x n : Nat} {B : ByteArray} {k : Nat} {s : De.Stt} (h : RunK x B.data.toList k s) (hk : k < B.size) (hn : B.size = n) (hok : (if B[k] == 48 then x / 2 ^ (n - 1 - k) % 2 == 0 else if B[k] == 49 then x / 2 ^ (n - 1 - k) % 2 == 1 else true) = false) :
    De.okL x B.data.toList = false := by
  obtain ⟨h1, h2⟩ := h
  rw [drop_cons B k hk, De.okL, drop_len B k n hn, hok, Bool.false_and] at h2
  exact h2.symm
theorem RunK.done {x : Nat} {B : ByteArray} {k : Nat} {s : De.Stt} (h : RunK x B.data.toList k s) (hk : B.size ≤ k) : s = De.Stt.run x De.Stt.zero B.data.toList ∧ De.okL x B.data.toList = true := by
  obtain ⟨h1, h2⟩ := h
  rw [List.drop_eq_nil_of_le (by simpa using hk)] at h1 h2
  exact ⟨h1, h2.symm⟩
theorem Mem.drew {op : Int} {wide : Bool} {w : World} {r : Nat} {s : De.Stt} {wr : World} (h : Mem op wide w r s wr) : Mem op wide w r s wr.drew := by
  obtain ⟨h1, h2, h3, h4, h5, h6, h7, h8⟩ := h
  exact ⟨h1.drew, h2, h3, h4, h5, h6, h7, h8⟩
theorem ins_drew {W : World} {b : Nat} {op rd rn rm ra imm cond : Int} {wide : Bool} (h : InsAt W b op rd rn rm ra imm cond wide) : InsAt W.drew b op rd rn rm ra imm cond wide := h
theorem open_drew {W : World} {b : Nat} (h : Open8 W b) : Open8 W.drew b := h
theorem fin_o (op : Int) (wide : Bool) (s : De.Stt) (h1 : ¬ op = 18) (h2 : ¬ op = 24) (h3 : ¬ op = 25) : De.fin op wide s = ⟨op, s.rd, s.rn, s.rm, s.ra, s.imm, s.cond, wide⟩ := by
  unfold De.fin
  rw [if_neg (by simpa using h1), if_neg (by simpa using h2), if_neg (by simpa using h3)]
theorem letter_bd {c : UInt8} (h : Letter c) : c.toNat ≤ 90 ∨ c = 100 ∨ c = 110 ∨ c = 109 ∨ c = 97 ∨ c = 99 ∨ c = 119 ∨ c = 120 ∨ c = 121 := by
  rcases h with rfl | rfl | rfl | rfl | rfl | rfl | rfl | rfl | rfl | rfl | ⟨h1, h2⟩ <;> first | (left; decide) | simp | (left; exact h2)
theorem ne_of_toList {B : ByteArray} (h : B.toList = []) : B.size = 0 := by
  by_cases hz : B.size = 0
  · exact hz
  · obtain ⟨⟨l⟩⟩ := B
    cases l with
    | nil => rfl
    | cons a l => exact absurd h (by simp)
/-- where all lies once a field has been put right -/
def Mem2 (op rd rn rm ra imm cond : Int) (wide : Bool) (w : World) (r : Nat) (wr : World) : Prop :=
  Below r w wr ∧ InsAt wr r 0 0 0 0 0 0 0 false ∧ Open8 wr r ∧ InsAt wr (r + 1) op rd rn rm ra imm cond wide ∧ r + 1 + 1 < wr.heap.size
theorem Mem.same {op : Int} {wide : Bool} {w : World} {r : Nat} {s : De.Stt} {wr : World} (h : Mem op wide w r s wr) : Mem2 op (s.rd : Int) (s.rn : Int) (s.rm : Int) (s.ra : Int) (s.imm : Int) (s.cond : Int) wide w r wr := by
  obtain ⟨h1, h2, h3, h4, h5, h6, h7, h8⟩ := h
  exact ⟨h1, h2, h3, h4, h8⟩
theorem Mem2.drewN {op rd rn rm ra imm cond : Int} {wide : Bool} {w : World} {r : Nat} {wr : World} (h : Mem2 op rd rn rm ra imm cond wide w r wr) (n : Nat) : Mem2 op rd rn rm ra imm cond wide w r (wr.drewN n) := by
  obtain ⟨h1, h2, h3, h4, h5⟩ := h
  exact ⟨below_drewN h1 n, h2, h3, h4, h5⟩
theorem Mem2.drew {op rd rn rm ra imm cond : Int} {wide : Bool} {w : World} {r : Nat} {wr : World} (h : Mem2 op rd rn rm ra imm cond wide w r wr) : Mem2 op rd rn rm ra imm cond wide w r wr.drew := by
  obtain ⟨h1, h2, h3, h4, h5⟩ := h
  exact ⟨h1.drew, h2, h3, h4, h5⟩
theorem Mem2.put4 {op rd rn rm ra imm cond : Int} {wide : Bool} {w : World} {r : Nat} {wr : World} (h : Mem2 op rd rn rm ra imm cond wide w r wr) (v : Int) : Mem2 op rd rn rm v imm cond wide w r (wr.setCell ⟨r + 1, 4, none⟩ (.int .i64 v)) := by
  obtain ⟨h1, ⟨a0, a1, a2, a3, a4, a5, a6, a7⟩, h3, ⟨c0, c1, c2, c3, c4, c5, c6, c7⟩, h5⟩ := h
  refine ⟨h1.setCell (by simp) _, ?_, ?_, ?_, ?_⟩
  · refine ⟨?_, ?_, ?_, ?_, ?_, ?_, ?_, ?_⟩ <;> simp [go_sem, a0, a1, a2, a3, a4, a5, a6, a7]
  · intro o; have := h3 o; simpa [go_sem] using this
  · refine ⟨?_, ?_, ?_, ?_, ?_, ?_, ?_, ?_⟩ <;> simp [go_sem, c0, c1, c2, c3, c4, c5, c6, c7]
  · simpa [go_sem] using h5
theorem Mem2.put5 {op rd rn rm ra imm cond : Int} {wide : Bool} {w : World} {r : Nat} {wr : World} (h : Mem2 op rd rn rm ra imm cond wide w r wr) (v : Int) : Mem2 op rd rn rm ra v cond wide w r (wr.setCell ⟨r + 1, 5, none⟩ (.int .i64 v)) := by
  obtain ⟨h1, ⟨a0, a1, a2, a3, a4, a5, a6, a7⟩, h3, ⟨c0, c1, c2, c3, c4, c5, c6, c7⟩, h5⟩ := h
  refine ⟨h1.setCell (by simp) _, ?_, ?_, ?_, ?_⟩
  · refine ⟨?_, ?_, ?_, ?_, ?_, ?_, ?_, ?_⟩ <;> simp [go_sem, a0, a1, a2, a3, a4, a5, a6, a7]
  · intro o; have := h3 o; simpa [go_sem] using this
  · refine ⟨?_, ?_, ?_, ?_, ?_, ?_, ?_, ?_⟩ <;> simp [go_sem, c0, c1, c2, c3, c4, c5, c6, c7]
  · simpa [go_sem] using h5
theorem sign_int (x n : Int) (w : World) (hn0 : 0 ≤ n) (hn : n ≤ 30) (h0 : 0 ≤ x) (h1 : x < 4294967296) :
    Calls Try.prog 60 #[.int .i64 x, .int .i64 n] w fun e w' => e = .returned (.int .i64 (De.sgn x n.toNat)) ∧ w = w' := by
  obtain ⟨m, rfl⟩ := Int.eq_ofNat_of_zero_le hn0
  exact sign_any x m w (by omega) h0 h1
end Go.Proofs.Ytdefgliogmlghaa
end
