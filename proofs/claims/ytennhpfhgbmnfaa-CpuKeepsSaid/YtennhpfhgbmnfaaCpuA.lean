/-
  What words, taken, Holds, signed .. of package cpu, and the document's, return.
-/
import Derived.Test.YtennhpfhgbmnfaaCpuS
import Derived.Test.YtennhpfhgbmnfaaThumbC
namespace Go.Proofs.Ytennhpfhgbmnfaa
open Go.ChangeShapes Go.WideShapes Go.ChangeAt Go.RowKit
set_option linter.unusedVariables false

set_option maxHeartbeats 1000000 in
theorem words_any (s : Cs.St) (w : World) :
    Calls Try.prog 22 #[.agg (Cs.cells s)] w fun e w' => e = .returned (.agg (Cs.cells (Cs.words s))) ∧ Below w.heap.size w w' := by
  have H0 := state_alloc w s
  have hl : ∀ s, StateAt ((w.alloc (.cells (Cs.cells s) 24)).alloc (.cells (Cs.cells Cs.none) 24)) w.heap.size s := fun s => (state_alloc w s).alloc _
  have hl2 : ∀ s t, StateAt ((w.alloc (.cells (Cs.cells s) 24)).alloc (.cells (Cs.cells t) 24)) (w.heap.size + 1) t := fun s t => state_alloc' _ _ _ (by simp)
  go_enter Try.func22, Try.ntmps22
  go_wp2_with (first | ((with_reducible refine wpList_load_regs (H0.alloc _) ?_ ?_); exact rfl))
  go_loopw [7] (fun K W => ∃ k : Nat, K = .int .i64 (k : Int) ∧ k ≤ 15 ∧ W = (w.alloc (.cells (Cs.cells (Cs.wk s k)) 24)).alloc (.cells (Cs.cells Cs.none) 24)) (fun K _ => 15 - (intOf K).toNat)
  case atStart => exact ⟨0, rfl, Nat.zero_le _, by rw [Cs.wk_0]; rfl⟩
  case round =>
    obtain ⟨k, rfl, hk, rfl⟩ := hrel
    by_cases hlt : k < 15
    · have hlt' : (k : Int) < 15 := by omega
      have hk0 : (0 : Int) ≤ (k : Int) := by omega
      have hri := fun w => run_regs_index s k hlt w
      have hg : (Cs.cells (Cs.wk s k))[k]? = some (.int .i64 (s.r k)) := by rw [Cs.cells_get _ _ hlt, Cs.wk_at]
      have hp : (Cs.cells (Cs.wk s k)).setIfInBounds k (.int .i64 (Wd.wrap (s.r k))) = Cs.cells (Cs.wk s (k + 1)) := by rw [Cs.cells_put _ _ _ hlt, Cs.wk_put]
      go_wp2_with (first | (go_at_call 36; refine (wrap_any _ _).mono ?_; rintro e w' ⟨rfl, rfl⟩))
      exact ⟨⟨k + 1, rfl, by omega, rfl⟩, by simp [intOf]; omega⟩
    · obtain rfl : k = 15 := by omega
      have hp := Cs.cells_pc (Cs.wk s 15)
      have hs := Cs.cells_spc (Cs.wk s 15) (Wd.wrap s.pc)
      have hpc : (Cs.wk s 15).pc = s.pc := rfl
      go_wp2_with (first | (go_at_call 36; refine (wrap_any _ _).mono ?_; rintro e w' ⟨rfl, rfl⟩) | ((with_reducible refine wpList_load_st (hl _) ?_ ?_); exact rfl) | ((with_reducible apply wpList_store_st (hl2 _ _)); exact rfl; rw [setRow_alloc' _ _ _ _ _ (by simp)]))
      try simp only [Exit.inBlock, Exit.then]
      refine bp_state rfl rfl (hl2 _ _) rfl ⟨by rw [← Cs.wk_15], by go_grown⟩

set_option maxHeartbeats 1000000 in
theorem rwords_any (s : Cs.St) (w : World) :
    Calls Try.prog 26 #[.agg (Cs.cells s)] w fun e w' => e = .returned (.agg (Cs.cells (Cs.words s))) ∧ Below w.heap.size w w' := by
  have hl : ∀ s, StateAt ((w.alloc (.cells (Cs.cells s) 24)).alloc (.cells (Cs.cells Cs.none) 24)) w.heap.size s := fun s => (state_alloc w s).alloc _
  have hl2 : ∀ s t, StateAt ((w.alloc (.cells (Cs.cells s) 24)).alloc (.cells (Cs.cells t) 24)) (w.heap.size + 1) t := fun s t => state_alloc' _ _ _ (by simp)
  go_enter Try.func26, Try.ntmps26
  go_wp2
  go_loopw [3] (fun K W => ∃ k : Nat, K = .int .i64 (k : Int) ∧ k ≤ 15 ∧ W = (w.alloc (.cells (Cs.cells (Cs.wk s k)) 24)).alloc (.cells (Cs.cells Cs.none) 24)) (fun K _ => 15 - (intOf K).toNat)
  case atStart => exact ⟨0, rfl, Nat.zero_le _, by rw [Cs.wk_0]; rfl⟩
  case round =>
    obtain ⟨k, rfl, hk, rfl⟩ := hrel
    by_cases hlt : k < 15
    · have hlt' : (k : Int) < 15 := by omega
      have hk0 : (0 : Int) ≤ (k : Int) := by omega
      have hg : (Cs.cells (Cs.wk s k))[k]? = some (.int .i64 (s.r k)) := by rw [Cs.cells_get _ _ hlt, Cs.wk_at]
      have hp : (Cs.cells (Cs.wk s k)).setIfInBounds k (.int .i64 (Wd.wrap (s.r k))) = Cs.cells (Cs.wk s (k + 1)) := by rw [Cs.cells_put _ _ _ hlt, Cs.wk_put]
      go_wp2_with (first | (go_at_call 28; refine (rwrap_any _ _).mono ?_; rintro e w' ⟨rfl, rfl⟩))
      exact ⟨⟨k + 1, by go_num, by omega, rfl⟩, by simp [intOf]; omega⟩
    · obtain rfl : k = 15 := by omega
      have hp := Cs.cells_pc (Cs.wk s 15)
      have hs := Cs.cells_spc (Cs.wk s 15) (Wd.wrap s.pc)
      have hpc : (Cs.wk s 15).pc = s.pc := rfl
      go_wp2_with (first | (go_at_call 28; refine (rwrap_any _ _).mono ?_; rintro e w' ⟨rfl, rfl⟩) | ((with_reducible refine wpList_load_st (hl _) ?_ ?_); exact rfl) | ((with_reducible apply wpList_store_st (hl2 _ _)); exact rfl; rw [setRow_alloc' _ _ _ _ _ (by simp)]))
      try simp only [Exit.inBlock, Exit.then]
      refine bp_state rfl rfl (hl2 _ _) rfl ⟨by rw [← Cs.wk_15], by go_grown⟩

set_option maxHeartbeats 1000000 in
theorem holds_any (s : Cs.St) (cond : Int) (w : World) :
    Calls Try.prog 16 #[.agg (Cs.cells s), .int .i64 cond] w fun e w' => e = .returned (.bool (Cs.holds s cond)) ∧ Below w.heap.size w w' := by
  have h1 := Cs.cells_n s
  have h2 := Cs.cells_z s
  have h3 := Cs.cells_c s
  have h4 := Cs.cells_v s
  go_enter Try.func16, Try.ntmps16
  go_wp2
  all_goals
    go_ret
    refine ⟨ret_bool ?_, by go_grown⟩
    clear h1 h2 h3 h4
    simp [Cs.holds, *]
    try (cases s.n <;> cases s.v <;> rfl)

set_option maxHeartbeats 1000000 in
theorem rholds_any (s : Cs.St) (cond : Int) (w : World) :
    Calls Try.prog 17 #[.agg (Cs.cells s), .int .i64 cond] w fun e w' => e = .returned (.bool (Cs.holds s cond)) ∧ Below w.heap.size w w' := by
  have h1 := Cs.cells_n s
  have h2 := Cs.cells_z s
  have h3 := Cs.cells_c s
  have h4 := Cs.cells_v s
  go_enter Try.func17, Try.ntmps17
  go_wp2
  all_goals
    go_ret
    refine ⟨ret_bool ?_, by go_grown⟩
    clear h1 h2 h3 h4
    simp [Cs.holds, *]
    try (cases s.n <;> cases s.v <;> rfl)

theorem csigned_any (a : Int) (w : World) (h0 : 0 ≤ a) (h1 : a < 4294967296) :
    Calls Try.prog 78 #[.int .i64 a] w fun e w' => e = .returned (.int .i64 (Cs.sgn a)) ∧ w = w' := by
  have hb := Wd.bit_bd a 31
  go_enter Try.func78, Try.ntmps78
  go_wp2_with (first | (go_at_call 77; refine (bit_any _ _ _).mono ?_; rintro e w' ⟨rfl, rfl⟩))
  go_ret
  exact ⟨wret_int (Cs.sgn_bit a h0 h1), rfl⟩

theorem rsigned_any (a : Int) (w : World) (h0 : 0 ≤ a) (h1 : a < 4294967296) :
    Calls Try.prog 31 #[.int .i64 a] w fun e w' => e = .returned (.int .i64 (Cs.sgn a)) ∧ w = w' := by
  go_enter Try.func31, Try.ntmps31
  go_wp2
  all_goals
    go_ret
    refine ⟨wret_int ?_, rfl⟩
    unfold Cs.sgn
    split <;> omega
end Go.Proofs.Ytennhpfhgbmnfaa
