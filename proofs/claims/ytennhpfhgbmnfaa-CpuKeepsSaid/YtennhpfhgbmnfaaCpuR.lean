/-
  What the calls of the document's own thumb return: contracts for the walks.
-/
import Derived.Test.YtennhpfhgbmnfaaThumbM8
import Derived.Test.YtennhpfhgbmnfaaThumbK
namespace Go.Proofs.Ytennhpfhgbmnfaa
open Go.ChangeShapes Go.WideShapes Go.ChangeAt Go.RowKit

theorem ret_str {a b : ByteArray} (h : a = b) : Ending.returned (.string a) = .returned (.string b) := by rw [h]
set_option maxHeartbeats 1000000 in
theorem rmore_any (op : Int) (w : World) :
    Calls Try.prog 79 #[.int .i64 op] w fun e w' => e = .returned (.string (Th.rmore op)) ∧ w = w' := by
  go_enter Try.func79, Try.ntmps79
  go_wp2
  all_goals
    go_ret
    refine ⟨ret_str ?_, rfl⟩
    go_tidy
    simp [Th.rmore, *]
set_option maxHeartbeats 1000000 in
theorem rbits_any (op : Int) (wide : Bool) (w : World) :
    Calls Try.prog 52 #[.int .i64 op, .bool wide] w fun e w' => e = .returned (.string (Th.rbits op wide)) ∧ w = w' := by
  cases wide
  all_goals
    go_enter Try.func52, Try.ntmps52
    go_wp2_with (go_at_call 79; refine (rmore_any _ _).mono ?_; rintro e w' ⟨rfl, rfl⟩)
    all_goals
      go_ret
      refine ⟨ret_str ?_, rfl⟩
      go_tidy
      simp [Th.rbits, *]
set_option maxHeartbeats 1000000 in
theorem rnumber_any (op rd rn rm ra imm cond : Int) (wide : Bool) (w : World) :
    Calls Try.prog 53 #[.agg #[.int .i64 op, .int .i64 rd, .int .i64 rn, .int .i64 rm, .int .i64 ra, .int .i64 imm, .int .i64 cond, .bool wide]] w fun e w' => e = .returned (.bool (Th.rnumber op imm)) ∧ Below w.heap.size w w' := by
  go_enter Try.func53, Try.ntmps53
  go_wp2
  all_goals
    go_ret
    refine ⟨ret_bool ?_, by go_grown⟩
    go_tidy
    first | (simp [Th.rnumber, *]; done) | (simp [Th.rnumber, *]; omega)
theorem has_take (s : ByteArray) (k : Nat) (h : k < s.size) : s.data.toList[k]? = some s[k] := by
  rw [List.getElem?_eq_getElem (by simpa using h)]; rfl
theorem rhas_no (s : ByteArray) (c : Int) (h : ∀ j (hj : j < s.size), ((s[j].toNat : Int) == c) = false) : Th.rhas s c = false := by
  unfold Th.rhas
  rw [List.any_eq_false]
  intro b hb
  obtain ⟨j, hj, rfl⟩ := List.getElem_of_mem hb
  exact Bool.eq_false_iff.mp (h j (by simpa using hj))
theorem rhas_yes (s : ByteArray) (c : Int) (k : Nat) (h : k < s.size) (e : ((s[k].toNat : Int) == c) = true) : Th.rhas s c = true := by
  unfold Th.rhas
  rw [List.any_eq_true]
  exact ⟨s[k], by rw [List.mem_iff_getElem?]; exact ⟨k, has_take s k h⟩, e⟩
def NoneTo (s : ByteArray) (c : Int) (k : Nat) : Prop := ∀ j (hj : j < s.size), j < k → ((s[j].toNat : Int) == c) = false
set_option maxHeartbeats 1000000 in
theorem rhas_any (s : ByteArray) (c : Int) (w : World) (hs : s.size ≤ 64) :
    Calls Try.prog 80 #[.string s, .int .u8 c] w fun e w' => e = .returned (.bool (Th.rhas s c)) ∧ w = w' := by
  go_enter Try.func80, Try.ntmps80
  go_wp2
  go_loop [5] (fun i => ∃ k : Nat, k ≤ s.size ∧ i = .int .i64 k ∧ NoneTo s c k) (fun i => s.size - (intOf i).toNat)
  case atStart => exact ⟨0, Nat.zero_le _, rfl, fun j hj h => absurd h (Nat.not_lt_zero j)⟩
  case round =>
    obtain ⟨k, hk, rfl, hN⟩ := hrel
    by_cases hlt : k < s.size
    · cases he : ((s[k].toNat : Int) == c)
      · have hN' : NoneTo s c (k + 1) := fun j hj h => by
          by_cases e : j = k
          · subst e; exact he
          · exact hN j hj (by omega)
        have HN := Lib.hid hN'
        clear hN hN'
        go_wp2
        go_round
        case rel => exact ⟨k + 1, by omega, by go_num, HN.out⟩
        case measure => simp [intOf]; omega
      · have HY := Lib.hid (rhas_yes s c k hlt he)
        clear hN
        go_wp2
        go_ret
        exact ⟨ret_bool HY.out.symm, rfl⟩
    · have HY := Lib.hid (rhas_no s c (fun j hj => hN j hj (by omega)))
      clear hN
      go_wp2
      go_ret
      exact ⟨ret_bool HY.out.symm, rfl⟩
set_option maxHeartbeats 1000000 in
theorem rreg_any (s : ByteArray) (c n : Int) (w : World) (hs : s.size ≤ 64) :
    Calls Try.prog 54 #[.string s, .int .u8 c, .int .i64 n] w fun e w' => e = .returned (.bool (Th.rreg s c n)) ∧ w = w' := by
  cases hh : Th.rhas s c
  · go_enter Try.func54, Try.ntmps54
    go_wp2_with (go_at_call 80; refine (rhas_any _ _ _ hs).mono ?_; rintro e w' ⟨rfl, rfl⟩)
    all_goals
      go_ret
      refine ⟨ret_bool ?_, rfl⟩
      simp [Th.rreg, hh]
  by_cases hz : s.size = 16
  · have h1 : ((s.size : Int) == 16) = true := by simp [hz]
    have HZ := Lib.hid hz
    clear hz
    go_enter Try.func54, Try.ntmps54
    go_wp2_with (go_at_call 80; refine (rhas_any _ _ _ hs).mono ?_; rintro e w' ⟨rfl, rfl⟩)
    all_goals
      go_ret
      refine ⟨ret_bool ?_, rfl⟩
      rw [show Th.rreg s c n = (decide (0 ≤ n) && decide (n ≤ 7)) by simp [Th.rreg, hh, HZ.out]]
      first | (simp [*]; done) | (simp [*]; omega)
  · have h1 : ((s.size : Int) == 16) = false := by rw [beq_eq_false_iff_ne]; omega
    have HZ := Lib.hid hz
    clear hz
    go_enter Try.func54, Try.ntmps54
    go_wp2_with (go_at_call 80; refine (rhas_any _ _ _ hs).mono ?_; rintro e w' ⟨rfl, rfl⟩)
    all_goals
      go_ret
      refine ⟨ret_bool ?_, rfl⟩
      rw [show Th.rreg s c n = (decide (0 ≤ n) && decide (n ≤ 12)) by simp [Th.rreg, hh, HZ.out]]
      first | (simp [*]; done) | (simp [*]; omega)
set_option linter.unusedVariables false

set_option maxHeartbeats 1000000 in
theorem rreach_any (op : Int) (wide : Bool) (w : World) :
    Calls Try.prog 55 #[.int .i64 op, .bool wide] w fun e w' => e = .returned (.tuple #[.int .i64 (Th.reachLo op wide), .int .i64 (Th.reachHi op wide)]) ∧ w = w' := by
  cases wide
  all_goals
    go_enter Try.func55, Try.ntmps55
    go_wp2
    all_goals (go_ret2; exact ⟨ret_two (by simp [Th.reachLo, *]) (by simp [Th.reachHi, *]), rfl⟩)
end Go.Proofs.Ytennhpfhgbmnfaa
