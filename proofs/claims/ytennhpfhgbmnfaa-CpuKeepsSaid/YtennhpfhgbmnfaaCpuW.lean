/-
  What each call of package word, and of the document's own word, returns: contracts for the walks. The world stays as it was.
-/
import Derived.Test.YtennhpfhgbmnfaaWordM
import Derived.Test.YtennhpfhgbmnfaaRows
import Derived.WalkKit
import Derived.ProofKit
import Derived.LoopTactic
import Derived.Lib.Hide
namespace Go.Proofs.Ytennhpfhgbmnfaa
open Go.ChangeShapes Go.WideShapes Go.ChangeAt Go.RowKit

theorem wret_int {k : IntKind} {a b : Int} (h : a = b) : Ending.returned (.int k a) = .returned (.int k b) := by rw [h]
theorem wrap_any (n : Int) (w : World) :
    Calls Try.prog 36 #[.int .i64 n] w fun e w' => e = .returned (.int .i64 (Wd.wrap n)) ∧ w = w' := by
  go_enter Try.func36, Try.ntmps36
  go_wp2
  go_ret
  exact ⟨wret_int (Wd.and_ones n), rfl⟩

theorem count_any (n : Int) (w : World) :
    Calls Try.prog 70 #[.int .i64 n] w fun e w' => e = .returned (.int .i64 ((Wd.cnt n : Int))) ∧ w = w' := by
  go_enter Try.func70, Try.ntmps70
  go_wp2
  go_ret
  exact ⟨wret_int (Wd.and_31 n), rfl⟩

theorem product_any (a b : Int) (w : World) :
    Calls Try.prog 76 #[.int .i64 a, .int .i64 b] w fun e w' => e = .returned (.int .u64 (Wd.wrap a * Wd.wrap b)) ∧ w = w' := by
  have ha := Wd.wrap_bd a
  have hb := Wd.wrap_bd b
  go_enter Try.func76, Try.ntmps76
  go_wp2_with (go_at_call 36; refine (wrap_any _ _).mono ?_; rintro e w' ⟨rfl, rfl⟩)
  go_ret
  exact ⟨wret_int (Wd.prod_u64' a b), rfl⟩

theorem add_any (a b : Int) (w : World) :
    Calls Try.prog 24 #[.int .i64 a, .int .i64 b] w fun e w' => e = .returned (.int .i64 (Wd.add a b)) ∧ w = w' := by
  have ha := Wd.wrap_bd a
  have hb := Wd.wrap_bd b
  go_enter Try.func24, Try.ntmps24
  go_wp2_with (go_at_call 36; refine (wrap_any _ _).mono ?_; rintro e w' ⟨rfl, rfl⟩)
  go_ret
  exact ⟨wret_int (Wd.add_eq a b), rfl⟩

theorem sub_any (a b : Int) (w : World) :
    Calls Try.prog 75 #[.int .i64 a, .int .i64 b] w fun e w' => e = .returned (.int .i64 (Wd.sub a b)) ∧ w = w' := by
  have ha := Wd.wrap_bd a
  have hb := Wd.wrap_bd b
  go_enter Try.func75, Try.ntmps75
  go_wp2_with (go_at_call 36; refine (wrap_any _ _).mono ?_; rintro e w' ⟨rfl, rfl⟩)
  go_ret
  exact ⟨wret_int (Wd.sub_eq a b), rfl⟩

theorem mul_any (a b : Int) (w : World) :
    Calls Try.prog 48 #[.int .i64 a, .int .i64 b] w fun e w' => e = .returned (.int .i64 (Wd.mul a b)) ∧ w = w' := by
  have ha := Wd.wrap_bd a
  have hb := Wd.wrap_bd b
  go_enter Try.func48, Try.ntmps48
  go_wp2_with (go_at_call 76; refine (product_any _ _ _).mono ?_; rintro e w' ⟨rfl, rfl⟩)
  go_ret
  exact ⟨wret_int (Wd.mul_eq a b), rfl⟩

theorem high_any (a b : Int) (w : World) :
    Calls Try.prog 49 #[.int .i64 a, .int .i64 b] w fun e w' => e = .returned (.int .i64 (Wd.high a b)) ∧ w = w' := by
  have ha := Wd.wrap_bd a
  have hb := Wd.wrap_bd b
  go_enter Try.func49, Try.ntmps49
  go_wp2_with (go_at_call 76; refine (product_any _ _ _).mono ?_; rintro e w' ⟨rfl, rfl⟩)
  go_ret
  exact ⟨wret_int (Wd.high_eq a b), rfl⟩

theorem not_any (a : Int) (w : World) :
    Calls Try.prog 46 #[.int .i64 a] w fun e w' => e = .returned (.int .i64 (Wd.not a)) ∧ w = w' := by
  have ha := Wd.wrap_bd a
  go_enter Try.func46, Try.ntmps46
  go_wp2_with (go_at_call 36; refine (wrap_any _ _).mono ?_; rintro e w' ⟨rfl, rfl⟩)
  all_goals go_ret
  all_goals exact ⟨wret_int (Wd.not_eq a), rfl⟩

theorem and_any (a b : Int) (w : World) :
    Calls Try.prog 37 #[.int .i64 a, .int .i64 b] w fun e w' => e = .returned (.int .i64 (Wd.and a b)) ∧ w = w' := by
  go_enter Try.func37, Try.ntmps37
  go_wp2_with (go_at_call 36; refine (wrap_any _ _).mono ?_; rintro e w' ⟨rfl, rfl⟩)
  go_ret
  exact ⟨wret_int (Wd.and_eq a b), rfl⟩

theorem or_any (a b : Int) (w : World) :
    Calls Try.prog 43 #[.int .i64 a, .int .i64 b] w fun e w' => e = .returned (.int .i64 (Wd.or a b)) ∧ w = w' := by
  go_enter Try.func43, Try.ntmps43
  go_wp2_with (go_at_call 36; refine (wrap_any _ _).mono ?_; rintro e w' ⟨rfl, rfl⟩)
  go_ret
  exact ⟨wret_int (Wd.or_eq a b), rfl⟩

theorem xor_any (a b : Int) (w : World) :
    Calls Try.prog 74 #[.int .i64 a, .int .i64 b] w fun e w' => e = .returned (.int .i64 (Wd.xor a b)) ∧ w = w' := by
  go_enter Try.func74, Try.ntmps74
  go_wp2_with (go_at_call 36; refine (wrap_any _ _).mono ?_; rintro e w' ⟨rfl, rfl⟩)
  go_ret
  exact ⟨wret_int (Wd.xor_eq a b), rfl⟩

theorem shl_any (a n : Int) (w : World) :
    Calls Try.prog 44 #[.int .i64 a, .int .i64 n] w fun e w' => e = .returned (.int .i64 (Wd.shl a n)) ∧ w = w' := by
  have ha := Wd.wrap_bd a
  have hn := Wd.cnt_lt n
  go_enter Try.func44, Try.ntmps44
  go_wp2_with (first | (go_at_call 36; refine (wrap_any _ _).mono ?_; rintro e w' ⟨rfl, rfl⟩) | (go_at_call 70; refine (count_any _ _).mono ?_; rintro e w' ⟨rfl, rfl⟩))
  go_ret
  exact ⟨wret_int (Wd.shl_eq a n), rfl⟩

theorem shr_any (a n : Int) (w : World) :
    Calls Try.prog 71 #[.int .i64 a, .int .i64 n] w fun e w' => e = .returned (.int .i64 (Wd.shr a n)) ∧ w = w' := by
  have ha := Wd.wrap_bd a
  have hn := Wd.cnt_lt n
  go_enter Try.func71, Try.ntmps71
  go_wp2_with (first | (go_at_call 36; refine (wrap_any _ _).mono ?_; rintro e w' ⟨rfl, rfl⟩) | (go_at_call 70; refine (count_any _ _).mono ?_; rintro e w' ⟨rfl, rfl⟩))
  go_ret
  exact ⟨wret_int (rfl), rfl⟩

theorem bit_any (a n : Int) (w : World) :
    Calls Try.prog 77 #[.int .i64 a, .int .i64 n] w fun e w' => e = .returned (.int .i64 (Wd.bit a n)) ∧ w = w' := by
  have ha := Wd.shr_bd a n
  go_enter Try.func77, Try.ntmps77
  go_wp2_with (go_at_call 71; refine (shr_any _ _ _).mono ?_; rintro e w' ⟨rfl, rfl⟩)
  go_ret
  exact ⟨wret_int (Wd.bit_eq a n), rfl⟩

theorem ror_any (a n : Int) (w : World) :
    Calls Try.prog 73 #[.int .i64 a, .int .i64 n] w fun e w' => e = .returned (.int .i64 (Wd.ror a n)) ∧ w = w' := by
  have ha := Wd.wrap_bd a
  have hn := Wd.cnt_lt n
  go_enter Try.func73, Try.ntmps73
  go_wp2_with (first | (go_at_call 71; refine (shr_any _ _ _).mono ?_; rintro e w' ⟨rfl, rfl⟩) | (go_at_call 70; refine (count_any _ _).mono ?_; rintro e w' ⟨rfl, rfl⟩) | (go_at_call 36; refine (wrap_any _ _).mono ?_; rintro e w' ⟨rfl, rfl⟩))
  go_ret
  exact ⟨wret_int (Wd.ror_eq a n), rfl⟩

theorem rwrap_any (n : Int) (w : World) :
    Calls Try.prog 28 #[.int .i64 n] w fun e w' => e = .returned (.int .i64 (Wd.wrap n)) ∧ w = w' := by
  go_enter Try.func28, Try.ntmps28
  go_wp2
  go_ret
  exact ⟨wret_int (Wd.rwrap_eq n), rfl⟩

theorem rmany_any (n : Int) (w : World) :
    Calls Try.prog 57 #[.int .i64 n] w fun e w' => e = .returned (.int .i64 ((Wd.cnt n : Int))) ∧ w = w' := by
  go_enter Try.func57, Try.ntmps57
  go_wp2
  go_ret
  exact ⟨wret_int (Wd.rmany_eq n), rfl⟩

theorem radd_any (a b : Int) (w : World) :
    Calls Try.prog 66 #[.int .i64 a, .int .i64 b] w fun e w' => e = .returned (.int .i64 (Wd.add a b)) ∧ w = w' := by
  have ha := Wd.wrap_bd a
  have hb := Wd.wrap_bd b
  go_enter Try.func66, Try.ntmps66
  go_wp2_with (go_at_call 28; refine (rwrap_any _ _).mono ?_; rintro e w' ⟨rfl, rfl⟩)
  go_ret
  exact ⟨wret_int (Wd.add_eq a b), rfl⟩

theorem rsub_any (a b : Int) (w : World) :
    Calls Try.prog 33 #[.int .i64 a, .int .i64 b] w fun e w' => e = .returned (.int .i64 (Wd.sub a b)) ∧ w = w' := by
  have ha := Wd.wrap_bd a
  have hb := Wd.wrap_bd b
  go_enter Try.func33, Try.ntmps33
  go_wp2_with (go_at_call 28; refine (rwrap_any _ _).mono ?_; rintro e w' ⟨rfl, rfl⟩)
  go_ret
  exact ⟨wret_int (Wd.rsub_eq a b), rfl⟩

theorem rmul_any (a b : Int) (w : World) :
    Calls Try.prog 67 #[.int .i64 a, .int .i64 b] w fun e w' => e = .returned (.int .i64 (Wd.mul a b)) ∧ w = w' := by
  have ha := Wd.wrap_bd a
  have hb := Wd.wrap_bd b
  go_enter Try.func67, Try.ntmps67
  go_wp2_with (go_at_call 28; refine (rwrap_any _ _).mono ?_; rintro e w' ⟨rfl, rfl⟩)
  go_ret
  exact ⟨wret_int (Wd.rmul_eq a b), rfl⟩

theorem rhigh_any (a b : Int) (w : World) :
    Calls Try.prog 35 #[.int .i64 a, .int .i64 b] w fun e w' => e = .returned (.int .i64 (Wd.high a b)) ∧ w = w' := by
  have ha := Wd.wrap_bd a
  have hb := Wd.wrap_bd b
  go_enter Try.func35, Try.ntmps35
  go_wp2_with (go_at_call 28; refine (rwrap_any _ _).mono ?_; rintro e w' ⟨rfl, rfl⟩)
  go_ret
  exact ⟨wret_int (Wd.rhigh_eq a b), rfl⟩

theorem power_any (n : Int) (w : World) (h0 : 0 ≤ n) (h1 : n ≤ 62) :
    Calls Try.prog 56 #[.int .i64 n] w fun e w' => e = .returned (.int .i64 (Wd.pow2 n.toNat)) ∧ w = w' := by
  obtain ⟨m, rfl⟩ := Int.eq_ofNat_of_zero_le h0
  rw [Int.toNat_natCast]
  go_enter Try.func56, Try.ntmps56
  go_wp2
  go_loop [3, 4] (fun p i => ∃ k : Nat, k ≤ m ∧ i = .int .i64 k ∧ p = .int .i64 (Wd.pow2 k)) (fun _ i => m - (intOf i).toNat)
  case atStart => exact ⟨0, Nat.zero_le _, rfl, rfl⟩
  case round =>
    obtain ⟨k, hk, rfl, rfl⟩ := hrel
    by_cases hlt : k < m
    · have hp := Wd.pow2_bd k (by omega)
      go_wp2
      go_round
      case rel => exact ⟨k + 1, by omega, by go_num, by rw [Wd.pow2_succ]⟩
      case measure => simp [intOf]; omega
    · obtain rfl : k = m := by omega
      go_wp2
      go_ret
      exact ⟨rfl, rfl⟩
theorem rbit_any (a i : Int) (w : World) :
    Calls Try.prog 32 #[.int .i64 a, .int .i64 i] w fun e w' => e = .returned (.int .i64 (Wd.bit a i)) ∧ w = w' := by
  have ha := Wd.wrap_bd a
  have hn := Wd.cnt_lt i
  have hp := Wd.pow2_bd (Wd.cnt i) (by omega)
  go_enter Try.func32, Try.ntmps32
  go_wp2_with (first | (go_at_call 28; refine (rwrap_any _ _).mono ?_; rintro e w' ⟨rfl, rfl⟩) | (go_at_call 57; refine (rmany_any _ _).mono ?_; rintro e w' ⟨rfl, rfl⟩) | (go_at_call 56; refine (power_any _ _ (by omega) (by omega)).mono ?_; rw [Int.toNat_natCast]; rintro e w' ⟨rfl, rfl⟩))
  go_ret
  exact ⟨wret_int (Wd.rbit_eq a i), rfl⟩

theorem rshl_any (a n : Int) (w : World) :
    Calls Try.prog 58 #[.int .i64 a, .int .i64 n] w fun e w' => e = .returned (.int .i64 (Wd.shl a n)) ∧ w = w' := by
  have hn := Wd.cnt_lt n
  have hp := Wd.pow2_bd (Wd.cnt n) (by omega)
  go_enter Try.func58, Try.ntmps58
  go_wp2_with (first | (go_at_call 67; refine (rmul_any _ _ _).mono ?_; rintro e w' ⟨rfl, rfl⟩) | (go_at_call 57; refine (rmany_any _ _).mono ?_; rintro e w' ⟨rfl, rfl⟩) | (go_at_call 56; refine (power_any _ _ (by omega) (by omega)).mono ?_; rw [Int.toNat_natCast]; rintro e w' ⟨rfl, rfl⟩))
  go_ret
  exact ⟨wret_int (Wd.rshl_eq a n), rfl⟩

theorem rshr_any (a n : Int) (w : World) :
    Calls Try.prog 59 #[.int .i64 a, .int .i64 n] w fun e w' => e = .returned (.int .i64 (Wd.shr a n)) ∧ w = w' := by
  have ha := Wd.wrap_bd a
  have hn := Wd.cnt_lt n
  have hp := Wd.pow2_bd (Wd.cnt n) (by omega)
  go_enter Try.func59, Try.ntmps59
  go_wp2_with (first | (go_at_call 28; refine (rwrap_any _ _).mono ?_; rintro e w' ⟨rfl, rfl⟩) | (go_at_call 57; refine (rmany_any _ _).mono ?_; rintro e w' ⟨rfl, rfl⟩) | (go_at_call 56; refine (power_any _ _ (by omega) (by omega)).mono ?_; rw [Int.toNat_natCast]; rintro e w' ⟨rfl, rfl⟩))
  go_ret
  exact ⟨wret_int (rfl), rfl⟩

theorem rflip_any (a n : Int) (w : World) :
    Calls Try.prog 82 #[.int .i64 a, .int .i64 n] w fun e w' => e = .returned (.int .i64 (Wd.flip a n)) ∧ w = w' := by
  have ha := Wd.wrap_bd a
  have hn := Wd.cnt_lt n
  have hp := Wd.pow2_bd (Wd.cnt n) (by omega)
  go_enter Try.func82, Try.ntmps82
  go_wp2_with (first | (go_at_call 28; refine (rwrap_any _ _).mono ?_; rintro e w' ⟨rfl, rfl⟩) | (go_at_call 57; refine (rmany_any _ _).mono ?_; rintro e w' ⟨rfl, rfl⟩) | (go_at_call 56; refine (power_any _ _ (by omega) (by omega)).mono ?_; rw [Int.toNat_natCast]; rintro e w' ⟨rfl, rfl⟩) | (go_at_call 32; refine (rbit_any _ _ _).mono ?_; rintro e w' ⟨rfl, rfl⟩))
  all_goals go_ret
  · exact ⟨wret_int (Wd.rflip_t a n (by assumption)), rfl⟩
  · exact ⟨wret_int (Wd.rflip_f a n (by assumption)), rfl⟩

theorem int_is {k : IntKind} {a b : Int} (h : a = b) : Value.int k a = .int k b := by rw [h]

theorem three_not (m a b : Int) (w : World) :
    Calls Try.prog 81 #[.int .i64 m, .int .i64 a, .int .i64 b, .int .i64 0] w fun e w' => e = .returned (.int .i64 (Wd.not a)) ∧ w = w' := by
  go_enter Try.func81, Try.ntmps81
  go_wp2
  go_loop [9, 10] (fun o i => ∃ k : Nat, k ≤ 32 ∧ i = .int .i64 ((k : Int) - 1) ∧ o = .int .i64 (Wd.top (Wd.not a) k)) (fun _ i => (intOf i + 1).toNat)
  case atStart => exact ⟨32, by omega, rfl, by rw [(Wd.isWord_not a).top_32]⟩
  case round =>
    obtain ⟨k, hk, rfl, rfl⟩ := hrel
    by_cases hz : k = 0
    · subst hz
      go_wp2
      go_ret
      exact ⟨wret_int (Wd.top_0 _), rfl⟩
    · obtain ⟨j, rfl⟩ : ∃ j, k = j + 1 := ⟨k - 1, by omega⟩
      have ej : ((j + 1 : Nat) : Int) - 1 = (j : Int) := by omega
      rw [ej]
      clear ej hz
      have hb := (Wd.isWord_not a).top_bd (j + 1)
      have h1 := Wd.bit_bd a (j : Int)
      have h2 := Wd.bit_bd b (j : Int)
      go_wp2_with (go_at_call 32; refine (rbit_any _ _ _).mono ?_; rintro e w' ⟨rfl, rfl⟩)
      exact ⟨⟨j, by omega, rfl, int_is (Wd.step_not a j (by omega))⟩, by simp [intOf]⟩

theorem three_and (m a b : Int) (w : World) :
    Calls Try.prog 81 #[.int .i64 m, .int .i64 a, .int .i64 b, .int .i64 1] w fun e w' => e = .returned (.int .i64 (Wd.and a b)) ∧ w = w' := by
  go_enter Try.func81, Try.ntmps81
  go_wp2
  go_loop [9, 10] (fun o i => ∃ k : Nat, k ≤ 32 ∧ i = .int .i64 ((k : Int) - 1) ∧ o = .int .i64 (Wd.top (Wd.and a b) k)) (fun _ i => (intOf i + 1).toNat)
  case atStart => exact ⟨32, by omega, rfl, by rw [(Wd.isWord_and a b).top_32]⟩
  case round =>
    obtain ⟨k, hk, rfl, rfl⟩ := hrel
    by_cases hz : k = 0
    · subst hz
      go_wp2
      go_ret
      exact ⟨wret_int (Wd.top_0 _), rfl⟩
    · obtain ⟨j, rfl⟩ : ∃ j, k = j + 1 := ⟨k - 1, by omega⟩
      have ej : ((j + 1 : Nat) : Int) - 1 = (j : Int) := by omega
      rw [ej]
      clear ej hz
      have hb := (Wd.isWord_and a b).top_bd (j + 1)
      have h1 := Wd.bit_bd a (j : Int)
      have h2 := Wd.bit_bd b (j : Int)
      have h3 := Wd.bits_prod a b (j : Int)
      go_wp2_with (go_at_call 32; refine (rbit_any _ _ _).mono ?_; rintro e w' ⟨rfl, rfl⟩)
      exact ⟨⟨j, by omega, rfl, int_is (Wd.step_and a b j (by omega))⟩, by simp [intOf]⟩

theorem three_or (m a b : Int) (w : World) :
    Calls Try.prog 81 #[.int .i64 m, .int .i64 a, .int .i64 b, .int .i64 2] w fun e w' => e = .returned (.int .i64 (Wd.or a b)) ∧ w = w' := by
  go_enter Try.func81, Try.ntmps81
  go_wp2
  go_loop [9, 10] (fun o i => ∃ k : Nat, k ≤ 32 ∧ i = .int .i64 ((k : Int) - 1) ∧ o = .int .i64 (Wd.top (Wd.or a b) k)) (fun _ i => (intOf i + 1).toNat)
  case atStart => exact ⟨32, by omega, rfl, by rw [(Wd.isWord_or a b).top_32]⟩
  case round =>
    obtain ⟨k, hk, rfl, rfl⟩ := hrel
    by_cases hz : k = 0
    · subst hz
      go_wp2
      go_ret
      exact ⟨wret_int (Wd.top_0 _), rfl⟩
    · obtain ⟨j, rfl⟩ : ∃ j, k = j + 1 := ⟨k - 1, by omega⟩
      have ej : ((j + 1 : Nat) : Int) - 1 = (j : Int) := by omega
      rw [ej]
      clear ej hz
      have hb := (Wd.isWord_or a b).top_bd (j + 1)
      have h1 := Wd.bit_bd a (j : Int)
      have h2 := Wd.bit_bd b (j : Int)
      go_wp2_with (go_at_call 32; refine (rbit_any _ _ _).mono ?_; rintro e w' ⟨rfl, rfl⟩)
      exact ⟨⟨j, by omega, rfl, int_is (Wd.step_or a b j (by omega))⟩, by simp [intOf]⟩

theorem three_xor (m a b : Int) (w : World) :
    Calls Try.prog 81 #[.int .i64 m, .int .i64 a, .int .i64 b, .int .i64 3] w fun e w' => e = .returned (.int .i64 (Wd.xor a b)) ∧ w = w' := by
  go_enter Try.func81, Try.ntmps81
  go_wp2
  go_loop [9, 10] (fun o i => ∃ k : Nat, k ≤ 32 ∧ i = .int .i64 ((k : Int) - 1) ∧ o = .int .i64 (Wd.top (Wd.xor a b) k)) (fun _ i => (intOf i + 1).toNat)
  case atStart => exact ⟨32, by omega, rfl, by rw [(Wd.isWord_xor a b).top_32]⟩
  case round =>
    obtain ⟨k, hk, rfl, rfl⟩ := hrel
    by_cases hz : k = 0
    · subst hz
      go_wp2
      go_ret
      exact ⟨wret_int (Wd.top_0 _), rfl⟩
    · obtain ⟨j, rfl⟩ : ∃ j, k = j + 1 := ⟨k - 1, by omega⟩
      have ej : ((j + 1 : Nat) : Int) - 1 = (j : Int) := by omega
      rw [ej]
      clear ej hz
      have hb := (Wd.isWord_xor a b).top_bd (j + 1)
      have h1 := Wd.bit_bd a (j : Int)
      have h2 := Wd.bit_bd b (j : Int)
      go_wp2_with (go_at_call 32; refine (rbit_any _ _ _).mono ?_; rintro e w' ⟨rfl, rfl⟩)
      exact ⟨⟨j, by omega, rfl, int_is (Wd.step_xor a b j (by omega))⟩, by simp [intOf]⟩

theorem dnot_any (a : Int) (w : World) :
    Calls Try.prog 62 #[.int .i64 a] w fun e w' => e = .returned (.int .i64 (Wd.not a)) ∧ w = w' := by
  go_enter Try.func62, Try.ntmps62
  go_wp2_with (go_at_call 81; refine (three_not _ _ _ _).mono ?_; rintro e w' ⟨rfl, rfl⟩)
  go_ret
  exact ⟨wret_int (rfl), rfl⟩

theorem dand_any (a b : Int) (w : World) :
    Calls Try.prog 63 #[.int .i64 a, .int .i64 b] w fun e w' => e = .returned (.int .i64 (Wd.and a b)) ∧ w = w' := by
  go_enter Try.func63, Try.ntmps63
  go_wp2_with (go_at_call 81; refine (three_and _ _ _ _).mono ?_; rintro e w' ⟨rfl, rfl⟩)
  go_ret
  exact ⟨wret_int (rfl), rfl⟩

theorem dor_any (a b : Int) (w : World) :
    Calls Try.prog 64 #[.int .i64 a, .int .i64 b] w fun e w' => e = .returned (.int .i64 (Wd.or a b)) ∧ w = w' := by
  go_enter Try.func64, Try.ntmps64
  go_wp2_with (go_at_call 81; refine (three_or _ _ _ _).mono ?_; rintro e w' ⟨rfl, rfl⟩)
  go_ret
  exact ⟨wret_int (rfl), rfl⟩

theorem dxor_any (a b : Int) (w : World) :
    Calls Try.prog 65 #[.int .i64 a, .int .i64 b] w fun e w' => e = .returned (.int .i64 (Wd.xor a b)) ∧ w = w' := by
  go_enter Try.func65, Try.ntmps65
  go_wp2_with (go_at_call 81; refine (three_xor _ _ _ _).mono ?_; rintro e w' ⟨rfl, rfl⟩)
  go_ret
  exact ⟨wret_int (rfl), rfl⟩

theorem rror_any (a n : Int) (w : World) :
    Calls Try.prog 61 #[.int .i64 a, .int .i64 n] w fun e w' => e = .returned (.int .i64 (Wd.ror a n)) ∧ w = w' := by
  have ha := Wd.wrap_bd a
  have hn := Wd.cnt_lt n
  have hA := Wd.wn a
  go_enter Try.func61, Try.ntmps61
  go_wp2_with (go_at_call 28; refine (rwrap_any _ _).mono ?_; rintro e w' ⟨rfl, rfl⟩)
  go_loop [5, 6] (fun o i => ∃ k : Nat, k ≤ Wd.cnt n ∧ i = .int .i64 k ∧ o = .int .i64 (Wd.rorN (Wd.wrap a).toNat k : Int)) (fun _ i => Wd.cnt n - (intOf i).toNat)
  case atStart => exact ⟨0, Nat.zero_le _, rfl, int_is (by rw [Wd.rorN_zero]; omega)⟩
  case round =>
    obtain ⟨k, hk, rfl, rfl⟩ := hrel
    have hb := Wd.rorN_lt (Wd.wrap a).toNat k hA (by omega)
    by_cases hlt : k < Wd.cnt n
    · go_wp2_with (go_at_call 57; refine (rmany_any _ _).mono ?_; rintro e w' ⟨rfl, rfl⟩)
      go_round
      case rel => exact ⟨k + 1, by omega, by go_num, int_is (Wd.ror_round _ _ (by omega))⟩
      case measure => simp [intOf]; omega
    · obtain rfl : k = Wd.cnt n := by omega
      go_wp2_with (go_at_call 57; refine (rmany_any _ _).mono ?_; rintro e w' ⟨rfl, rfl⟩)
      go_ret
      exact ⟨rfl, rfl⟩

theorem rsar_any (a n : Int) (w : World) :
    Calls Try.prog 60 #[.int .i64 a, .int .i64 n] w fun e w' => e = .returned (.int .i64 (Wd.sar a n)) ∧ w = w' := by
  have ha := Wd.wrap_bd a
  have hn := Wd.cnt_lt n
  have hA := Wd.wn a
  go_enter Try.func60, Try.ntmps60
  go_wp2_with (go_at_call 28; refine (rwrap_any _ _).mono ?_; rintro e w' ⟨rfl, rfl⟩)
  go_loop [5, 6] (fun o i => ∃ k : Nat, k ≤ Wd.cnt n ∧ i = .int .i64 k ∧ o = .int .i64 (Wd.sarN (Wd.wrap a).toNat k : Int)) (fun _ i => Wd.cnt n - (intOf i).toNat)
  case atStart => exact ⟨0, Nat.zero_le _, rfl, int_is (by rw [Wd.sarN_zero]; omega)⟩
  case round =>
    obtain ⟨k, hk, rfl, rfl⟩ := hrel
    have hb := Wd.sarN_lt (Wd.wrap a).toNat k hA (by omega)
    by_cases hlt : k < Wd.cnt n
    · go_wp2_with (go_at_call 57; refine (rmany_any _ _).mono ?_; rintro e w' ⟨rfl, rfl⟩)
      go_round
      case rel => exact ⟨k + 1, by omega, by go_num, int_is (Wd.sar_round _ _ hA (by omega))⟩
      case measure => simp [intOf]; omega
    · obtain rfl : k = Wd.cnt n := by omega
      go_wp2_with (go_at_call 57; refine (rmany_any _ _).mono ?_; rintro e w' ⟨rfl, rfl⟩)
      go_ret
      exact ⟨rfl, rfl⟩

theorem sar_any (a n : Int) (w : World) :
    Calls Try.prog 72 #[.int .i64 a, .int .i64 n] w fun e w' => e = .returned (.int .i64 (Wd.sar a n)) ∧ w = w' := by
  have hn := Wd.cnt_lt n
  have hA := Wd.wn a
  have hs := Wd.bit_bd a 31
  go_enter Try.func72, Try.ntmps72
  go_wp2_with (first | (go_at_call 77; refine (bit_any _ _ _).mono ?_; rintro e w' ⟨rfl, rfl⟩) | (go_at_call 71; refine (shr_any _ _ _).mono ?_; rintro e w' ⟨rfl, rfl⟩) | (go_at_call 70; refine (count_any _ _).mono ?_; rintro e w' ⟨rfl, rfl⟩))
  go_loop [6, 15] (fun o i => ∃ k : Nat, k ≤ Wd.cnt n ∧ i = .int .i64 k ∧ o = .int .i64 (Wd.sarW (Wd.wrap a).toNat (Wd.cnt n) k : Int)) (fun _ i => Wd.cnt n - (intOf i).toNat)
  case atStart => exact ⟨0, Nat.zero_le _, rfl, int_is (by rw [Wd.sarW_zero, Wd.shr_nat])⟩
  case round =>
    obtain ⟨k, hk, rfl, rfl⟩ := hrel
    by_cases hlt : k < Wd.cnt n
    · go_wp2
      go_round
      case rel => exact ⟨k + 1, by omega, by go_num, int_is (Wd.sarW_round a _ _ (by omega) hlt)⟩
      case measure => simp [intOf]; omega
    · obtain rfl : k = Wd.cnt n := by omega
      go_wp2
      go_ret
      exact ⟨rfl, rfl⟩

theorem select_any (m a b : Int) (w : World) :
    Calls Try.prog 50 #[.int .i64 m, .int .i64 a, .int .i64 b] w fun e w' => e = .returned (.int .i64 (Wd.select m a b)) ∧ w = w' := by
  go_enter Try.func50, Try.ntmps50
  go_wp2
  go_loop [7, 10] (fun o i => ∃ k : Nat, k ≤ 32 ∧ i = .int .i64 k ∧ o = .int .i64 (Wd.bot (Wd.select m a b) k)) (fun _ i => 32 - (intOf i).toNat)
  case atStart => exact ⟨0, Nat.zero_le _, rfl, int_is (by rw [Wd.bot_0])⟩
  case round =>
    obtain ⟨k, hk, rfl, rfl⟩ := hrel
    by_cases hlt : k < 32
    · by_cases hm : (Wd.bit m (k : Int) == 1) = true
      · go_wp2_with (go_at_call 77; refine (bit_any _ _ _).mono ?_; rintro e w' ⟨rfl, rfl⟩)
        go_round
        case rel => exact ⟨k + 1, by omega, by go_num, int_is (Wd.up_sel_t m a b k hlt hm)⟩
        case measure => simp [intOf]; omega
      · have hm' : (Wd.bit m (k : Int) == 1) = false := by simpa using hm
        clear hm
        go_wp2_with (go_at_call 77; refine (bit_any _ _ _).mono ?_; rintro e w' ⟨rfl, rfl⟩)
        go_round
        case rel => exact ⟨k + 1, by omega, by go_num, int_is (Wd.up_sel_f m a b k hlt hm')⟩
        case measure => simp [intOf]; omega
    · obtain rfl : k = 32 := by omega
      go_wp2
      go_ret
      exact ⟨wret_int ((Wd.isWord_select m a b).bot_32), rfl⟩

end Go.Proofs.Ytennhpfhgbmnfaa
