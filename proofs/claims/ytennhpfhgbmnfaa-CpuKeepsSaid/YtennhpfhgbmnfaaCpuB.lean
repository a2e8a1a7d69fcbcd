/-
  What taken, shifted, joined, compared of package cpu return; the document's Taken, put, value.
-/
import Derived.Test.YtennhpfhgbmnfaaCpuA
import Derived.Test.YtennhpfhgbmnfaaCpuM2
namespace Go.Proofs.Ytennhpfhgbmnfaa
open Go.ChangeShapes Go.WideShapes Go.ChangeAt Go.RowKit
set_option linter.unusedVariables false

set_option maxHeartbeats 1000000 in
theorem taken_any (s : Cs.St) (op rd rn rm ra imm cond : Int) (wide : Bool) (w : World) :
    Calls Try.prog 23 #[.agg (Cs.cells s), .agg #[.int .i64 op, .int .i64 rd, .int .i64 rn, .int .i64 rm, .int .i64 ra, .int .i64 imm, .int .i64 cond, .bool wide]] w fun e w' => e = .returned (.bool (Cs.taken s op cond)) ∧ Below w.heap.size w w' := by
  have hl : StateAt ((w.alloc (.cells (Cs.cells s) 24)).alloc (.cells #[.int .i64 op, .int .i64 rd, .int .i64 rn, .int .i64 rm, .int .i64 ra, .int .i64 imm, .int .i64 cond, .bool wide] 26)) w.heap.size s := (state_alloc w s).alloc _
  cases h24 : (op == 24)
  · cases h25 : (op == 25)
    · go_enter Try.func23, Try.ntmps23
      go_wp2_with (first | go_skip | ((with_reducible refine wpList_load_stg (hl) ?_ ?_ ?_); exact rfl; exact rfl) | ((with_reducible refine wpList_take ?_ ?_); exact rfl; intro _ _) | (go_at_call 16; refine (holds_any _ _ _).mono ?_; rintro e w' ⟨rfl, hb⟩))
      go_ret
      refine ⟨ret_bool (by simp [Cs.taken, h24, h25]), ?_⟩
      first | exact (((Below.refl _ _).alloc (Nat.le_refl _) _).alloc (by simp) _).trans (hb.mono (by simp; omega)) | go_grown
    · go_enter Try.func23, Try.ntmps23
      go_wp2_with (first | go_skip | ((with_reducible refine wpList_load_stg (hl) ?_ ?_ ?_); exact rfl; exact rfl) | ((with_reducible refine wpList_take ?_ ?_); exact rfl; intro _ _) | (go_at_call 16; refine (holds_any _ _ _).mono ?_; rintro e w' ⟨rfl, hb⟩))
      go_ret
      refine ⟨ret_bool (by simp [Cs.taken, h24, h25]), ?_⟩
      first | exact (((Below.refl _ _).alloc (Nat.le_refl _) _).alloc (by simp) _).trans (hb.mono (by simp; omega)) | go_grown
  · go_enter Try.func23, Try.ntmps23
    go_wp2_with (first | go_skip | ((with_reducible refine wpList_load_stg (hl) ?_ ?_ ?_); exact rfl; exact rfl) | ((with_reducible refine wpList_take ?_ ?_); exact rfl; intro _ _) | (go_at_call 16; refine (holds_any _ _ _).mono ?_; rintro e w' ⟨rfl, hb⟩))
    go_ret
    refine ⟨ret_bool (by simp [Cs.taken, h24]), ?_⟩
    first | exact (((Below.refl _ _).alloc (Nat.le_refl _) _).alloc (by simp) _).trans (hb.mono (by simp; omega)) | go_grown

set_option maxHeartbeats 1000000 in
theorem rtaken_any (s : Cs.St) (op rd rn rm ra imm cond : Int) (wide : Bool) (w : World) :
    Calls Try.prog 30 #[.agg (Cs.cells s), .agg #[.int .i64 op, .int .i64 rd, .int .i64 rn, .int .i64 rm, .int .i64 ra, .int .i64 imm, .int .i64 cond, .bool wide]] w fun e w' => e = .returned (.bool (Cs.taken s op cond)) ∧ Below w.heap.size w w' := by
  have hl : StateAt ((w.alloc (.cells (Cs.cells s) 24)).alloc (.cells #[.int .i64 op, .int .i64 rd, .int .i64 rn, .int .i64 rm, .int .i64 ra, .int .i64 imm, .int .i64 cond, .bool wide] 26)) w.heap.size s := (state_alloc w s).alloc _
  cases h24 : (op == 24)
  · cases h25 : (op == 25)
    · go_enter Try.func30, Try.ntmps30
      go_wp2_with (first | go_skip | ((with_reducible refine wpList_load_stg (hl) ?_ ?_ ?_); exact rfl; exact rfl) | ((with_reducible refine wpList_take ?_ ?_); exact rfl; intro _ _) | (go_at_call 17; refine (rholds_any _ _ _).mono ?_; rintro e w' ⟨rfl, hb⟩))
      go_ret
      refine ⟨ret_bool (by simp [Cs.taken, h24, h25]), ?_⟩
      first | exact (((Below.refl _ _).alloc (Nat.le_refl _) _).alloc (by simp) _).trans (hb.mono (by simp; omega)) | go_grown
    · go_enter Try.func30, Try.ntmps30
      go_wp2_with (first | go_skip | ((with_reducible refine wpList_load_stg (hl) ?_ ?_ ?_); exact rfl; exact rfl) | ((with_reducible refine wpList_take ?_ ?_); exact rfl; intro _ _) | (go_at_call 17; refine (rholds_any _ _ _).mono ?_; rintro e w' ⟨rfl, hb⟩))
      go_ret
      refine ⟨ret_bool (by simp [Cs.taken, h24, h25]), ?_⟩
      first | exact (((Below.refl _ _).alloc (Nat.le_refl _) _).alloc (by simp) _).trans (hb.mono (by simp; omega)) | go_grown
  · go_enter Try.func30, Try.ntmps30
    go_wp2_with (first | go_skip | ((with_reducible refine wpList_load_stg (hl) ?_ ?_ ?_); exact rfl; exact rfl) | ((with_reducible refine wpList_take ?_ ?_); exact rfl; intro _ _) | (go_at_call 17; refine (rholds_any _ _ _).mono ?_; rintro e w' ⟨rfl, hb⟩))
    go_ret
    refine ⟨ret_bool (by simp [Cs.taken, h24]), ?_⟩
    first | exact (((Below.refl _ _).alloc (Nat.le_refl _) _).alloc (by simp) _).trans (hb.mono (by simp; omega)) | go_grown

set_option maxHeartbeats 1000000 in
theorem shifted_any (op m by_ : Int) (w : World) :
    Calls Try.prog 45 #[.int .i64 op, .int .i64 m, .int .i64 by_] w fun e w' => e = .returned (.int .i64 (Cs.shifted op m by_)) ∧ w = w' := by
  go_enter Try.func45, Try.ntmps45
  go_wp2_with (first | (go_at_call 44; refine (shl_any _ _ _).mono ?_; rintro e w' ⟨rfl, rfl⟩) | (go_at_call 71; refine (shr_any _ _ _).mono ?_; rintro e w' ⟨rfl, rfl⟩) | (go_at_call 72; refine (sar_any _ _ _).mono ?_; rintro e w' ⟨rfl, rfl⟩) | (go_at_call 73; refine (ror_any _ _ _).mono ?_; rintro e w' ⟨rfl, rfl⟩))
  all_goals
    go_ret
    exact ⟨wret_int (by simp [Cs.shifted, *]), rfl⟩

set_option maxHeartbeats 1000000 in
theorem joined_any (op n m : Int) (w : World) :
    Calls Try.prog 47 #[.int .i64 op, .int .i64 n, .int .i64 m] w fun e w' => e = .returned (.int .i64 (Cs.joined op n m)) ∧ w = w' := by
  go_enter Try.func47, Try.ntmps47
  go_wp2_with (first | (go_at_call 24; refine (add_any _ _ _).mono ?_; rintro e w' ⟨rfl, rfl⟩) | (go_at_call 75; refine (sub_any _ _ _).mono ?_; rintro e w' ⟨rfl, rfl⟩) | (go_at_call 48; refine (mul_any _ _ _).mono ?_; rintro e w' ⟨rfl, rfl⟩) | (go_at_call 37; refine (and_any _ _ _).mono ?_; rintro e w' ⟨rfl, rfl⟩) | (go_at_call 43; refine (or_any _ _ _).mono ?_; rintro e w' ⟨rfl, rfl⟩) | (go_at_call 74; refine (xor_any _ _ _).mono ?_; rintro e w' ⟨rfl, rfl⟩) | (go_at_call 46; refine (not_any _ _).mono ?_; rintro e w' ⟨rfl, rfl⟩))
  all_goals
    go_ret
    exact ⟨wret_int (by simp [Cs.joined, *]), rfl⟩

set_option maxHeartbeats 1000000 in
theorem compared_any (s : Cs.St) (n m : Int) (w : World) (n0 : 0 ≤ n) (n1 : n < 4294967296) (m0 : 0 ≤ m) (m1 : m < 4294967296) :
    Calls Try.prog 51 #[.agg (Cs.cells s), .int .i64 n, .int .i64 m] w fun e w' => e = .returned (.agg (Cs.cells (Cs.cmp s n m))) ∧ Below w.heap.size w w' := by
  have hl : ∀ s, StateAt ((w.alloc (.cells (Cs.cells s) 24)).alloc (.cells Cs.zero 24)) w.heap.size s := fun s => (state_alloc w s).alloc _
  have hl2 : ∀ s t, StateAt ((w.alloc (.cells (Cs.cells s) 24)).alloc (.cells (Cs.cells t) 24)) (w.heap.size + 1) t := fun s t => state_alloc' _ _ _ (by simp)
  have hl3 : ∀ s, StateAt ((w.alloc (.cells (Cs.cells s) 24)).alloc (.cells Cs.zero 24)) (w.heap.size + 1) Cs.none := fun s => hl2 s Cs.none
  have c0 : ∀ s : Cs.St, (Cs.cells s)[16]? = some (.bool s.n) := fun s => rfl
  have c1 : ∀ s : Cs.St, (Cs.cells s)[17]? = some (.bool s.z) := fun s => rfl
  have c2 : ∀ s : Cs.St, (Cs.cells s)[18]? = some (.bool s.c) := fun s => rfl
  have c3 : ∀ s : Cs.St, (Cs.cells s)[19]? = some (.bool s.v) := fun s => rfl
  have d0 := fun s x => Cs.cells_sn s x
  have d1 := fun s x => Cs.cells_sz s x
  have d2 := fun s x => Cs.cells_sc s x
  have d3 := fun s x => Cs.cells_sv s x
  have hs1 := Cs.sgn_bd n n0 n1
  have hs2 := Cs.sgn_bd m m0 m1
  go_enter Try.func51, Try.ntmps51
  go_wp2_with (first | (go_at_call 78; first | ((with_reducible refine (csigned_any n _ n0 n1).mono ?_); rintro e w' ⟨rfl, rfl⟩) | ((with_reducible refine (csigned_any m _ m0 m1).mono ?_); rintro e w' ⟨rfl, rfl⟩)) | (go_at_call 75; refine (sub_any _ _ _).mono ?_; rintro e w' ⟨rfl, rfl⟩) | (go_at_call 77; refine (bit_any _ _ _).mono ?_; rintro e w' ⟨rfl, rfl⟩) | ((with_reducible refine wpList_load_st (hl _) ?_ ?_); exact rfl) | ((with_reducible apply wpList_store_st (hl3 _)); exact rfl; rw [setRow_alloc' _ _ _ _ _ (by simp)]))
  all_goals
    try simp only [Exit.inBlock, Exit.then]
    refine bp_state rfl rfl (hl2 _ _) rfl ⟨?_, by go_grown⟩
  all_goals first | rfl | (rename_i h; rw [show Cs.cmp s n m = ⟨s.r, s.pc, Wd.bit (Wd.sub n m) 31 == 1, n == m, decide (m ≤ n), true⟩ by simp [Cs.cmp, h]])

set_option maxHeartbeats 1000000 in
theorem rput_any (d n : Int) (a m : Nat) (w : World) (h : a + m ≤ 32) (hd : 0 ≤ d) (hd2 : d < 4294967296) :
    Calls Try.prog 68 #[.int .i64 d, .int .i64 n, .int .i64 (a : Int), .int .i64 (m : Int)] w fun e w' => e = .returned (.int .i64 (Cs.bf d n (a : Int) m)) ∧ w = w' := by
  go_enter Try.func68, Try.ntmps68
  go_wp2
  go_loop [0, 9] (fun o i => ∃ k : Nat, k ≤ m ∧ i = .int .i64 (k : Int) ∧ o = .int .i64 (Cs.bf d n (a : Int) k)) (fun _ i => m - (intOf i).toNat)
  case atStart => exact ⟨0, Nat.zero_le _, rfl, rfl⟩
  case round =>
    obtain ⟨k, hk, rfl, rfl⟩ := hrel
    by_cases hlt : k < m
    · have hlt' : (k : Int) < (m : Int) := by omega
      cases hb : (Wd.bit (Cs.bf d n (a : Int) k) ((a : Int) + (k : Int)) != Wd.bit n (k : Int))
      · have HN := Lib.hid (show Cs.bf d n (a : Int) (k + 1) = Cs.bf d n (a : Int) k from if_neg (by rw [hb]; decide))
        go_wp2_with (first | (go_at_call 32; refine (rbit_any _ _ _).mono ?_; rintro e w' ⟨rfl, rfl⟩) | (go_at_call 82; refine (rflip_any _ _ _).mono ?_; rintro e w' ⟨rfl, rfl⟩))
        go_round
        case rel => exact ⟨k + 1, by omega, by go_num, int_is HN.out.symm⟩
        case measure => simp [intOf]; omega
      · have HN := Lib.hid (show Cs.bf d n (a : Int) (k + 1) = Wd.flip (Cs.bf d n (a : Int) k) ((a : Int) + (k : Int)) from if_pos hb)
        go_wp2_with (first | (go_at_call 32; refine (rbit_any _ _ _).mono ?_; rintro e w' ⟨rfl, rfl⟩) | (go_at_call 82; refine (rflip_any _ _ _).mono ?_; rintro e w' ⟨rfl, rfl⟩))
        go_round
        case rel => exact ⟨k + 1, by omega, by go_num, int_is HN.out.symm⟩
        case measure => simp [intOf]; omega
    · obtain rfl : k = m := by omega
      go_wp2
      go_ret
      exact ⟨rfl, rfl⟩

set_option maxHeartbeats 1000000 in
theorem value_4 (rd rn rm ra imm cond d n m l : Int) (wide : Bool) (w : World) (d0 : 0 ≤ d) (d1 : d < 4294967296) (i0 : 0 ≤ imm) (i1 : imm ≤ 65535) :
    Calls Try.prog 34 #[.agg #[.int .i64 4, .int .i64 rd, .int .i64 rn, .int .i64 rm, .int .i64 ra, .int .i64 imm, .int .i64 cond, .bool wide], .int .i64 d, .int .i64 n, .int .i64 m, .int .i64 l] w fun e w' => e = .returned (.int .i64 (Cs.value 4 ra imm d n m l)) ∧ Below w.heap.size w w' := by
  have ht : d.tmod 65536 = d % 65536 := Int.tmod_eq_emod_of_nonneg d0
  go_enter Try.func34, Try.ntmps34
  go_wp2
  go_ret
  exact ⟨wret_int (Cs.movt d imm d0 d1 i0 i1).symm, by go_grown⟩
set_option maxHeartbeats 1000000 in
theorem value_18 (rd rn rm cond d n m l : Int) (a k : Nat) (wide : Bool) (w : World) (d0 : 0 ≤ d) (d1 : d < 4294967296) (h : a + k ≤ 32) (hk : 1 ≤ k) :
    Calls Try.prog 34 #[.agg #[.int .i64 18, .int .i64 rd, .int .i64 rn, .int .i64 rm, .int .i64 (k : Int), .int .i64 (a : Int), .int .i64 cond, .bool wide], .int .i64 d, .int .i64 n, .int .i64 m, .int .i64 l] w fun e w' => e = .returned (.int .i64 (Cs.value 18 (k : Int) (a : Int) d n m l)) ∧ Below w.heap.size w w' := by
  go_enter Try.func34, Try.ntmps34
  go_wp2_with (first | (go_at_call 68; refine (rput_any _ _ _ _ _ h d0 d1).mono ?_; rintro e w' ⟨rfl, rfl⟩))
  go_ret
  exact ⟨wret_int (Cs.bfi d n a k d0 d1 h hk).symm, by go_grown⟩
set_option maxHeartbeats 2000000 in
theorem value_o (op rd rn rm ra imm cond d n m l : Int) (wide : Bool) (w : World) (h4 : (op == 4) = false) (h18 : (op == 18) = false) :
    Calls Try.prog 34 #[.agg #[.int .i64 op, .int .i64 rd, .int .i64 rn, .int .i64 rm, .int .i64 ra, .int .i64 imm, .int .i64 cond, .bool wide], .int .i64 d, .int .i64 n, .int .i64 m, .int .i64 l] w fun e w' => e = .returned (.int .i64 (Cs.value op ra imm d n m l)) ∧ Below w.heap.size w w' := by
  have hb := Wd.wrap_bd l
  have ht : (Wd.wrap l).tmod 256 = Wd.wrap l % 256 := Int.tmod_eq_emod_of_nonneg hb.1
  go_enter Try.func34, Try.ntmps34
  go_wp2_with (first | (go_at_call 28; refine (rwrap_any _ _).mono ?_; rintro e w' ⟨rfl, rfl⟩) | (go_at_call 66; refine (radd_any _ _ _).mono ?_; rintro e w' ⟨rfl, rfl⟩) | (go_at_call 33; refine (rsub_any _ _ _).mono ?_; rintro e w' ⟨rfl, rfl⟩) | (go_at_call 67; refine (rmul_any _ _ _).mono ?_; rintro e w' ⟨rfl, rfl⟩) | (go_at_call 63; refine (dand_any _ _ _).mono ?_; rintro e w' ⟨rfl, rfl⟩) | (go_at_call 64; refine (dor_any _ _ _).mono ?_; rintro e w' ⟨rfl, rfl⟩) | (go_at_call 65; refine (dxor_any _ _ _).mono ?_; rintro e w' ⟨rfl, rfl⟩) | (go_at_call 62; refine (dnot_any _ _).mono ?_; rintro e w' ⟨rfl, rfl⟩) | (go_at_call 58; refine (rshl_any _ _ _).mono ?_; rintro e w' ⟨rfl, rfl⟩) | (go_at_call 59; refine (rshr_any _ _ _).mono ?_; rintro e w' ⟨rfl, rfl⟩) | (go_at_call 60; refine (rsar_any _ _ _).mono ?_; rintro e w' ⟨rfl, rfl⟩) | (go_at_call 61; refine (rror_any _ _ _).mono ?_; rintro e w' ⟨rfl, rfl⟩))
  all_goals
    go_ret
    refine ⟨wret_int ?_, by go_grown⟩
    clear hb ht
    simp [Cs.value, Cs.shifted, Cs.joined, *]
end Go.Proofs.Ytennhpfhgbmnfaa
