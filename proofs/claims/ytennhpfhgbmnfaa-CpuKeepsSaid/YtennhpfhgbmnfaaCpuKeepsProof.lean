/-
  Law CpuKeeps: An instruction changes no register but Rd (and Ra of OUmull), and flags by OCmp alone.
  Conditions: none but those of the given row.
-/
import Derived.Test.YtennhpfhgbmnfaaRows
import Derived.Test.YtennhpfhgbmnfaaCpuP
import Derived.Test.YtennhpfhgbmnfaaCpuQ
import Derived.WalkKit
import Derived.ProofKit
import Derived.OpenShut
import Derived.ShutString
import Derived.ChangeOld
import Derived.Below
import Derived.LoopN
import Derived.SizedLaws
namespace Go.Proofs.Ytennhpfhgbmnfaa.cpuKeeps
open Go.ChangeShapes Go.WideShapes Go.ChangeAt Go.RowKit
open Go.ChangeMaps (open_string shut_string)
set_option linter.unusedVariables false
set_option linter.unusedSimpArgs false

theorem own : ownKnob Try.prog.godebug = none := by kernel_rfl
theorem laidOut : laidOutB Try.prog = true := by kernel_rfl

set_option maxHeartbeats 8000000 in
set_option maxRecDepth 100000 in
theorem keeps_n1 (s0 : Cs.St) (op1 rd1 rn1 rm1 ra1 imm1 cond1 : Int) (wide1 : Bool) (a2 : Int) (w : World) (hB : Cs.stepB ⟨op1, rd1, rn1, rm1, ra1, imm1, cond1, wide1⟩ = false) (hc : (Th.check ⟨op1, rd1, rn1, rm1, ra1, imm1, cond1, wide1⟩ != 0) = true) :
    Calls Try.prog 7 #[.agg (Cs.cells s0), .agg #[.int .i64 op1, .int .i64 rd1, .int .i64 rn1, .int .i64 rm1, .int .i64 ra1, .int .i64 imm1, .int .i64 cond1, .bool wide1], .int .i64 a2] w fun e w' => e = .returned (.bool true) ∧ Below w.heap.size w w' := by
  have H := Lib.hid (Cpu2.new w s0 op1 rd1 rn1 rm1 ra1 imm1 cond1 wide1)
  obtain ⟨T, hT⟩ : ∃ T, T = Cs.stepS s0 ⟨op1, rd1, rn1, rm1, ra1, imm1, cond1, wide1⟩ a2 := ⟨_, rfl⟩
  have hpc : T.pc = Wd.wrap s0.pc := by rw [hT]; exact Cs.keeps_pc0 s0 a2 hB
  have C0 : Hid (∀ w : World, Calls Try.prog 9 #[.agg (Cs.cells s0), .agg #[.int .i64 op1, .int .i64 rd1, .int .i64 rn1, .int .i64 rm1, .int .i64 ra1, .int .i64 imm1, .int .i64 cond1, .bool wide1], .int .i64 a2] w fun e w' => e = .returned (.tuple #[.agg (Cs.cells T), .bool false]) ∧ Below w.heap.size w w') := by
    refine Lib.hid fun w => ?_
    have h := step_any s0 op1 rd1 rn1 rm1 ra1 imm1 cond1 a2 wide1 w
    rw [hB, ← hT] at h
    exact h
  have hand : bits .and .i64 s0.pc 4294967295 = Wd.wrap s0.pc := Wd.and_ones _
  have HP := Lib.hid hpc
  clear hpc hT hB
  go_enter Try.func7, Try.ntmps7
  go_wp2_with (first | go_skip | ((with_reducible refine wpList_load_st H.out.st ?_ ?_); exact rfl) | (go_at_call 9; refine (C0.out _).mono ?_; rintro e w1 ⟨rfl, hb⟩; replace H := Lib.hid (H.out.kept hb); obtain ⟨i0, i1, i2, i3, i4, i5, i6, i7⟩ := H.out.ins; clear hb) | ((with_reducible refine wpList_store_st (state_alloc_zero _) T ?_ ?_); exact rfl; rw [World.setRow_alloc_new]; replace H := Lib.hid (H.out.alloc (.cells (Cs.cells T) 24)); have HT := Lib.hid (state_alloc w1 T); generalize World.alloc w1 _ = W2 at *; generalize w1.heap.size = bT at *; obtain ⟨i0, i1, i2, i3, i4, i5, i6, i7⟩ := H.out.ins; have tpc := HT.out.pc; rw [HP.out] at tpc; have spc := H.out.st.pc) | (go_at_call 18; refine (check_any _ _ _ _ _ _ _ _ _).mono ?_; rintro e w1 ⟨rfl, hb⟩; replace H := Lib.hid (H.out.kept hb); replace HT := Lib.hid (HT.out.below hb); obtain ⟨i0, i1, i2, i3, i4, i5, i6, i7⟩ := H.out.ins; have tpc := HT.out.pc; rw [HP.out] at tpc; have spc := H.out.st.pc; clear hb) | ((with_reducible refine wpList_take ?_ ?_); exact rfl; intro _ _) | (go_at_call 11; refine (lives_any _).mono ?_; rintro e w5 ⟨rfl, hb⟩; replace H := Lib.hid (H.out.kept hb); clear hb))
  go_ret
  exact ⟨rfl, H.out.bel⟩
set_option maxHeartbeats 8000000 in
set_option maxRecDepth 100000 in
theorem keeps_n2 (s0 : Cs.St) (op1 rd1 rn1 rm1 ra1 imm1 cond1 : Int) (wide1 : Bool) (a2 : Int) (w : World) (hB : Cs.stepB ⟨op1, rd1, rn1, rm1, ra1, imm1, cond1, wide1⟩ = false) (hc : (Th.check ⟨op1, rd1, rn1, rm1, ra1, imm1, cond1, wide1⟩ != 0) = false) (h2 : (op1 == 2) = true) :
    Calls Try.prog 7 #[.agg (Cs.cells s0), .agg #[.int .i64 op1, .int .i64 rd1, .int .i64 rn1, .int .i64 rm1, .int .i64 ra1, .int .i64 imm1, .int .i64 cond1, .bool wide1], .int .i64 a2] w fun e w' => e = .returned (.bool true) ∧ Below w.heap.size w w' := by
  have H := Lib.hid (Cpu2.new w s0 op1 rd1 rn1 rm1 ra1 imm1 cond1 wide1)
  obtain ⟨T, hT⟩ : ∃ T, T = Cs.stepS s0 ⟨op1, rd1, rn1, rm1, ra1, imm1, cond1, wide1⟩ a2 := ⟨_, rfl⟩
  have hpc : T.pc = Wd.wrap s0.pc := by rw [hT]; exact Cs.keeps_pc0 s0 a2 hB
  have C0 : Hid (∀ w : World, Calls Try.prog 9 #[.agg (Cs.cells s0), .agg #[.int .i64 op1, .int .i64 rd1, .int .i64 rn1, .int .i64 rm1, .int .i64 ra1, .int .i64 imm1, .int .i64 cond1, .bool wide1], .int .i64 a2] w fun e w' => e = .returned (.tuple #[.agg (Cs.cells T), .bool false]) ∧ Below w.heap.size w w') := by
    refine Lib.hid fun w => ?_
    have h := step_any s0 op1 rd1 rn1 rm1 ra1 imm1 cond1 a2 wide1 w
    rw [hB, ← hT] at h
    exact h
  have hand : bits .and .i64 s0.pc 4294967295 = Wd.wrap s0.pc := Wd.and_ones _
  have HP := Lib.hid hpc
  clear hpc hT hB
  go_enter Try.func7, Try.ntmps7
  go_wp2_with (first | go_skip | ((with_reducible refine wpList_load_st H.out.st ?_ ?_); exact rfl) | (go_at_call 9; refine (C0.out _).mono ?_; rintro e w1 ⟨rfl, hb⟩; replace H := Lib.hid (H.out.kept hb); obtain ⟨i0, i1, i2, i3, i4, i5, i6, i7⟩ := H.out.ins; clear hb) | ((with_reducible refine wpList_store_st (state_alloc_zero _) T ?_ ?_); exact rfl; rw [World.setRow_alloc_new]; replace H := Lib.hid (H.out.alloc (.cells (Cs.cells T) 24)); have HT := Lib.hid (state_alloc w1 T); generalize World.alloc w1 _ = W2 at *; generalize w1.heap.size = bT at *; obtain ⟨i0, i1, i2, i3, i4, i5, i6, i7⟩ := H.out.ins; have tpc := HT.out.pc; rw [HP.out] at tpc; have spc := H.out.st.pc) | (go_at_call 18; refine (check_any _ _ _ _ _ _ _ _ _).mono ?_; rintro e w1 ⟨rfl, hb⟩; replace H := Lib.hid (H.out.kept hb); replace HT := Lib.hid (HT.out.below hb); obtain ⟨i0, i1, i2, i3, i4, i5, i6, i7⟩ := H.out.ins; have tpc := HT.out.pc; rw [HP.out] at tpc; have spc := H.out.st.pc; clear hb) | ((with_reducible refine wpList_take ?_ ?_); exact rfl; intro _ _) | (go_at_call 11; refine (lives_any _).mono ?_; rintro e w5 ⟨rfl, hb⟩; replace H := Lib.hid (H.out.kept hb); clear hb))
  go_ret
  exact ⟨rfl, H.out.bel⟩
set_option maxHeartbeats 8000000 in
set_option maxRecDepth 100000 in
theorem keeps_v1 (s0 : Cs.St) (op1 rd1 rn1 rm1 ra1 imm1 cond1 : Int) (wide1 : Bool) (a2 : Int) (w : World) (hB : Cs.stepB ⟨op1, rd1, rn1, rm1, ra1, imm1, cond1, wide1⟩ = true) (hX : ((Cs.stepS s0 ⟨op1, rd1, rn1, rm1, ra1, imm1, cond1, wide1⟩ a2).n = s0.n ∧ (Cs.stepS s0 ⟨op1, rd1, rn1, rm1, ra1, imm1, cond1, wide1⟩ a2).z = s0.z ∧ (Cs.stepS s0 ⟨op1, rd1, rn1, rm1, ra1, imm1, cond1, wide1⟩ a2).c = s0.c ∧ (Cs.stepS s0 ⟨op1, rd1, rn1, rm1, ra1, imm1, cond1, wide1⟩ a2).v = s0.v) ∧ (Cs.stepS s0 ⟨op1, rd1, rn1, rm1, ra1, imm1, cond1, wide1⟩ a2).pc = Wd.add (Wd.wrap s0.pc) (Th.size ⟨op1, rd1, rn1, rm1, ra1, imm1, cond1, wide1⟩)) :
    Calls Try.prog 7 #[.agg (Cs.cells s0), .agg #[.int .i64 op1, .int .i64 rd1, .int .i64 rn1, .int .i64 rm1, .int .i64 ra1, .int .i64 imm1, .int .i64 cond1, .bool wide1], .int .i64 a2] w fun e w' => e = .returned (.bool true) ∧ Below w.heap.size w w' := by
  have H := Lib.hid (Cpu2.new w s0 op1 rd1 rn1 rm1 ra1 imm1 cond1 wide1)
  obtain ⟨T, hT⟩ : ∃ T, T = Cs.stepS s0 ⟨op1, rd1, rn1, rm1, ra1, imm1, cond1, wide1⟩ a2 := ⟨_, rfl⟩
  have hR : ∀ k : Nat, ¬ (k : Int) = rd1 → ¬ ((k : Int) = ra1 ∧ op1 = 17) → T.r k = Wd.wrap (s0.r k) := fun k h1 h2 => by rw [hT]; exact Cs.keeps_r s0 a2 hB k h1 h2
  have C0 : Hid (∀ w : World, Calls Try.prog 9 #[.agg (Cs.cells s0), .agg #[.int .i64 op1, .int .i64 rd1, .int .i64 rn1, .int .i64 rm1, .int .i64 ra1, .int .i64 imm1, .int .i64 cond1, .bool wide1], .int .i64 a2] w fun e w' => e = .returned (.tuple #[.agg (Cs.cells T), .bool true]) ∧ Below w.heap.size w w') := by
    refine Lib.hid fun w => ?_
    have h := step_any s0 op1 rd1 rn1 rm1 ra1 imm1 cond1 a2 wide1 w
    rw [hB, ← hT] at h
    exact h
  rw [← hT] at hX
  have HR := Lib.hid hR
  have HX := Lib.hid hX
  clear hR hX hT hB
  go_enter Try.func7, Try.ntmps7
  go_wp2_with (first | go_skip | ((with_reducible refine wpList_load_st H.out.st ?_ ?_); exact rfl) | (go_at_call 9; refine (C0.out _).mono ?_; rintro e w1 ⟨rfl, hb⟩; replace H := Lib.hid (H.out.kept hb); obtain ⟨i0, i1, i2, i3, i4, i5, i6, i7⟩ := H.out.ins; clear hb) | ((with_reducible refine wpList_store_st (state_alloc_zero _) T ?_ ?_); exact rfl; rw [World.setRow_alloc_new]; replace H := Lib.hid (H.out.alloc (.cells (Cs.cells T) 24)); have HT := Lib.hid (state_alloc w1 T); generalize World.alloc w1 _ = W2 at *; generalize w1.heap.size = bT at *; obtain ⟨i0, i1, i2, i3, i4, i5, i6, i7⟩ := H.out.ins))
  have Hs := H.out
  have HTs := HT.out
  clear i0 i1 i2 i3 i4 i5 i6 i7 H HT
  go_loopw [9] (fun K W => ∃ k : Nat, K = .int .i64 (k : Int) ∧ k ≤ 15 ∧ Cpu2 w w.heap.size W s0 op1 rd1 rn1 rm1 ra1 imm1 cond1 wide1 ∧ StateAt W bT T) (fun K _ => 15 - (intOf K).toNat)
  case atStart => exact ⟨0, rfl, Nat.zero_le _, Hs, HTs⟩
  case round =>
    obtain ⟨k, rfl, hk, H0, HT0⟩ := hrel
    have H := Lib.hid H0
    have HT := Lib.hid HT0
    clear H0 HT0 Hs HTs
    by_cases hlt : k < 15
    · have hlt' : (k : Int) < 15 := by omega
      have hk0 : (0 : Int) ≤ (k : Int) := by omega
      have aK : bits .and .i64 (s0.r k) 4294967295 = Wd.wrap (s0.r k) := Wd.and_ones _
      have sk := H.out.st.reg k hlt
      have tk0 := HT.out.reg k hlt
      obtain ⟨i0, i1, i2, i3, i4, i5, i6, i7⟩ := H.out.ins
      cases hrd : ((k : Int) == rd1)
      · cases hra : ((k : Int) == ra1)
        · have tk : wr.cell? ⟨bT, k, none⟩ = some (.int .i64 (Wd.wrap (s0.r k))) := by rw [← HR.out k (by simpa using hrd) (fun h => by simp [h.1] at hra)]; exact tk0
          clear tk0
          go_wp2_with (first | go_skip | ((with_reducible refine wpList_take ?_ ?_); exact rfl; intro _ _))
          go_quiet (fail)
          go_wp2
          exact ⟨⟨k + 1, by go_num, by omega, H.out.kept (below_drewC (Below.refl _ _) nq), HT.out.below (below_drewC (Below.refl _ _) nq)⟩, by simp [intOf]; omega⟩
        · cases h17 : (op1 == 17)
          · have tk : wr.cell? ⟨bT, k, none⟩ = some (.int .i64 (Wd.wrap (s0.r k))) := by rw [← HR.out k (by simpa using hrd) (fun h => by simp [h.2] at h17)]; exact tk0
            clear tk0
            go_wp2_with (first | go_skip | ((with_reducible refine wpList_take ?_ ?_); exact rfl; intro _ _))
            go_quiet (fail)
            go_wp2
            exact ⟨⟨k + 1, by go_num, by omega, H.out.kept (below_drewC (Below.refl _ _) nq), HT.out.below (below_drewC (Below.refl _ _) nq)⟩, by simp [intOf]; omega⟩
          · go_wp2_with (first | go_skip | ((with_reducible refine wpList_take ?_ ?_); exact rfl; intro _ _))
            go_quiet (fail)
            go_wp2
            exact ⟨⟨k + 1, by go_num, by omega, H.out.kept (below_drewC (Below.refl _ _) nq), HT.out.below (below_drewC (Below.refl _ _) nq)⟩, by simp [intOf]; omega⟩
      · go_wp2_with (first | go_skip | ((with_reducible refine wpList_take ?_ ?_); exact rfl; intro _ _))
        go_quiet (fail)
        go_wp2
        exact ⟨⟨k + 1, by go_num, by omega, H.out.kept (below_drewC (Below.refl _ _) nq), HT.out.below (below_drewC (Below.refl _ _) nq)⟩, by simp [intOf]; omega⟩
    · obtain rfl : k = 15 := by omega
      have hge : ¬ (15 : Int) < 15 := by omega
      have hand : ∀ x : Int, bits .and .i64 (IntKind.i64.wrap (s0.pc + x)) 4294967295 = Wd.add (Wd.wrap s0.pc) x := fun x => by rw [Wd.and_ones, IntKind.wrap_i64]; unfold Wd.add Wd.wrap; omega
      obtain ⟨i0, i1, i2, i3, i4, i5, i6, i7⟩ := H.out.ins
      have sn := H.out.st.n
      have tn := HT.out.n
      have sz := H.out.st.z
      have tz := HT.out.z
      have sc := H.out.st.c
      have tc := HT.out.c
      have sv := H.out.st.v
      have tv := HT.out.v
      obtain ⟨x1, x2, x3, x4⟩ := HX.out.1
      rw [x1] at tn
      rw [x2] at tz
      rw [x3] at tc
      rw [x4] at tv
      clear x1 x2 x3 x4
      have xp := HX.out.2
      go_wp2_with (first | go_skip | ((with_reducible refine wpList_take ?_ ?_); exact rfl; intro _ _))
      replace H := Lib.hid H.out.drew
      replace HT : Hid (StateAt wr.drew bT T) := Lib.hid (HT.out.below (Below.refl _ _).drew)
      clear i0 i1 i2 i3 i4 i5 i6 i7 sn sz sc sv tn tz tc tv
      have e15 : ∀ W, StateAt W bT T → W.cell? ⟨bT, 15, none⟩ = some (.int .i64 (Wd.add (Wd.wrap s0.pc) (Th.size ⟨op1, rd1, rn1, rm1, ra1, imm1, cond1, wide1⟩))) := fun W h => by rw [← HX.out.2]; exact h.pc
      clear xp
      refine wp_region_held_drew (S := fun wx => wx.cell? ⟨bT, 15, none⟩ = some (.int .i64 (Wd.add (Wd.wrap s0.pc) (Th.size ⟨op1, rd1, rn1, rm1, ra1, imm1, cond1, wide1⟩))) ∧ wx.cell? ⟨w.heap.size, 15, none⟩ = some (.int .i64 s0.pc) ∧ InsAt wx (w.heap.size + 1) op1 rd1 rn1 rm1 ra1 imm1 cond1 wide1) (by kernel_rfl) (⟨e15 _ HT.out, H.out.st.pc, H.out.ins⟩) (fun hHeld => ?_)
      refine wpAnyH_take (i := 0) (v := ?_) rfl (by kernel_rfl) (by kernel_rfl) (by kernel_rfl) (fun _ _ _ h => h) (Or.inl ⟨by rfl, ?_⟩) (by assumption) ?_
      rotate_left
      · intro w hSw
        (try dsimp only at hSw)
        go_simp
        (try with_reducible rfl)
      (try simp only [Act.put, List.setIfInBounds_toArray, List.set_cons_zero, List.set_cons_succ, List.getElem_toArray, List.getElem_cons_succ, List.getElem_cons_zero])
      refine wpAnyH_take (i := 1) (v := ?_) rfl (by kernel_rfl) (by kernel_rfl) (by kernel_rfl) (fun _ _ _ h => h) (Or.inl ⟨by rfl, ?_⟩) (by assumption) ?_
      rotate_left
      · intro w hSw
        (try dsimp only at hSw)
        go_simp
        (try with_reducible rfl)
      (try simp only [Act.put, List.setIfInBounds_toArray, List.set_cons_zero, List.set_cons_succ, List.getElem_toArray, List.getElem_cons_succ, List.getElem_cons_zero])
      refine wpAnyH_take (i := 2) (v := undef) rfl (by kernel_rfl) (by kernel_rfl) (by kernel_rfl) (fun _ _ _ h => h) (Or.inr ⟨by kernel_rfl, rfl⟩) (by assumption) ?_
      (try simp only [Act.put, List.setIfInBounds_toArray, List.set_cons_zero, List.set_cons_succ, List.getElem_toArray, List.getElem_cons_succ, List.getElem_cons_zero])
      refine wpAnyH_take (i := 3) (v := undef) rfl (by kernel_rfl) (by kernel_rfl) (by kernel_rfl) (fun _ _ _ h => h) (Or.inr ⟨by kernel_rfl, rfl⟩) (by assumption) ?_
      (try simp only [Act.put, List.setIfInBounds_toArray, List.set_cons_zero, List.set_cons_succ, List.getElem_toArray, List.getElem_cons_succ, List.getElem_cons_zero])
      refine wpAnyH_take (i := 4) (v := undef) rfl (by kernel_rfl) (by kernel_rfl) (by kernel_rfl) (fun _ _ _ h => h) (Or.inr ⟨by kernel_rfl, rfl⟩) (by assumption) ?_
      (try simp only [Act.put, List.setIfInBounds_toArray, List.set_cons_zero, List.set_cons_succ, List.getElem_toArray, List.getElem_cons_succ, List.getElem_cons_zero])
      refine wpAnyH_take (i := 5) (v := ?_) rfl (by kernel_rfl) (by kernel_rfl) (by kernel_rfl) (fun _ _ _ h => h) (Or.inl ⟨by rfl, ?_⟩) (by assumption) ?_
      rotate_left
      · intro w hSw
        (try dsimp only at hSw)
        go_simp
        (try with_reducible rfl)
      (try simp only [Act.put, List.setIfInBounds_toArray, List.set_cons_zero, List.set_cons_succ, List.getElem_toArray, List.getElem_cons_succ, List.getElem_cons_zero])
      refine wpAnyH_take (i := 6) (v := ?_) rfl (by kernel_rfl) (by kernel_rfl) (by kernel_rfl) (fun _ _ _ h => h) (Or.inl ⟨by rfl, ?_⟩) (by assumption) ?_
      rotate_left
      · intro w hSw
        (try dsimp only at hSw)
        go_simp
        (try with_reducible rfl)
      (try simp only [Act.put, List.setIfInBounds_toArray, List.set_cons_zero, List.set_cons_succ, List.getElem_toArray, List.getElem_cons_succ, List.getElem_cons_zero])
      refine wpAnyH_take (i := 7) (v := ?_) rfl (by kernel_rfl) (by kernel_rfl) (by kernel_rfl) (fun _ _ _ h => h) (Or.inl ⟨by rfl, ?_⟩) (by assumption) ?_
      rotate_left
      · intro w hSw
        (try dsimp only at hSw)
        go_simp
        (try with_reducible rfl)
      (try simp only [Act.put, List.setIfInBounds_toArray, List.set_cons_zero, List.set_cons_succ, List.getElem_toArray, List.getElem_cons_succ, List.getElem_cons_zero])
      refine wpAnyH_take (i := 8) (v := ?_) rfl (by kernel_rfl) (by kernel_rfl) (by kernel_rfl) (fun _ _ _ h => h) (Or.inl ⟨by rfl, ?_⟩) (by assumption) ?_
      rotate_left
      · intro w hSw
        (try dsimp only at hSw)
        go_simp
        (try with_reducible rfl)
      (try simp only [Act.put, List.setIfInBounds_toArray, List.set_cons_zero, List.set_cons_succ, List.getElem_toArray, List.getElem_cons_succ, List.getElem_cons_zero])
      refine wpAnyH_take (i := 9) (v := ?_) rfl (by kernel_rfl) (by kernel_rfl) (by kernel_rfl) (fun _ _ _ h => h) (Or.inl ⟨by rfl, ?_⟩) (by assumption) ?_
      rotate_left
      · intro w hSw
        (try dsimp only at hSw)
        go_simp
        (try with_reducible rfl)
      (try simp only [Act.put, List.setIfInBounds_toArray, List.set_cons_zero, List.set_cons_succ, List.getElem_toArray, List.getElem_cons_succ, List.getElem_cons_zero])
      refine wpAnyH_take (i := 10) (v := ?_) rfl (by kernel_rfl) (by kernel_rfl) (by kernel_rfl) (fun _ _ _ h => h) (Or.inl ⟨by rfl, ?_⟩) (by assumption) ?_
      rotate_left
      · intro w hSw
        (try dsimp only at hSw)
        go_simp
        (try with_reducible rfl)
      (try simp only [Act.put, List.setIfInBounds_toArray, List.set_cons_zero, List.set_cons_succ, List.getElem_toArray, List.getElem_cons_succ, List.getElem_cons_zero])
      refine wpAnyH_take (i := 11) (v := ?_) rfl (by kernel_rfl) (by kernel_rfl) (by kernel_rfl) (fun _ _ _ h => h) (Or.inl ⟨by rfl, ?_⟩) (by assumption) ?_
      rotate_left
      · intro w hSw
        (try dsimp only at hSw)
        go_simp
        (try with_reducible rfl)
      (try simp only [Act.put, List.setIfInBounds_toArray, List.set_cons_zero, List.set_cons_succ, List.getElem_toArray, List.getElem_cons_succ, List.getElem_cons_zero])
      refine wpAnyH_ready (rs := [12]) (by kernel_rfl) (by simp) ?_
      refine AllReadyH.cons rfl (fun K hK => ?_) AllReadyH.nil
      go_simp
      (go_at_call 20; refine (size_any _ _ _ _ _ _ _ _ _).mono ?_; rintro e w3 ⟨rfl, hb⟩; replace H := Lib.hid (H.out.kept hb); replace HT := Lib.hid (HT.out.below hb); clear hb)
      refine hK.out _ _ (by exact ⟨e15 _ HT.out, H.out.st.pc, H.out.ins⟩) (fun hHeld => ?_)
      clear hK K
      (try simp only [Act.put, List.setIfInBounds_toArray, List.set_cons_zero, List.set_cons_succ, List.getElem_toArray, List.getElem_cons_succ, List.getElem_cons_zero])
      refine wpAnyH_take (i := 13) (v := ?_) rfl (by kernel_rfl) (by kernel_rfl) (by kernel_rfl) (fun _ _ _ h => h) (Or.inl ⟨by rfl, ?_⟩) (by assumption) ?_
      rotate_left
      · intro w hSw
        (try dsimp only at hSw)
        go_simp
        (try with_reducible rfl)
      (try simp only [Act.put, List.setIfInBounds_toArray, List.set_cons_zero, List.set_cons_succ, List.getElem_toArray, List.getElem_cons_succ, List.getElem_cons_zero])
      refine wpAnyH_take (i := 14) (v := ?_) rfl (by kernel_rfl) (by kernel_rfl) (by kernel_rfl) (fun _ _ _ h => h) (Or.inl ⟨by rfl, ?_⟩) (by assumption) ?_
      rotate_left
      · intro w hSw
        (try dsimp only at hSw)
        go_simp
        (try with_reducible rfl)
      (try simp only [Act.put, List.setIfInBounds_toArray, List.set_cons_zero, List.set_cons_succ, List.getElem_toArray, List.getElem_cons_succ, List.getElem_cons_zero])
      refine wpAnyH_take (i := 15) (v := ?_) rfl (by kernel_rfl) (by kernel_rfl) (by kernel_rfl) (fun _ _ _ h => h) (Or.inl ⟨by rfl, ?_⟩) (by assumption) ?_
      rotate_left
      · intro w hSw
        (try dsimp only at hSw)
        go_simp
        (try with_reducible rfl)
      (try simp only [Act.put, List.setIfInBounds_toArray, List.set_cons_zero, List.set_cons_succ, List.getElem_toArray, List.getElem_cons_succ, List.getElem_cons_zero])
      refine wpAnyH_take (i := 16) (v := ?_) rfl (by kernel_rfl) (by kernel_rfl) (by kernel_rfl) (fun _ _ _ h => h) (Or.inl ⟨by rfl, ?_⟩) (by assumption) ?_
      rotate_left
      · intro w hSw
        (try dsimp only at hSw)
        go_simp
        (try with_reducible rfl)
      (try simp only [Act.put, List.setIfInBounds_toArray, List.set_cons_zero, List.set_cons_succ, List.getElem_toArray, List.getElem_cons_succ, List.getElem_cons_zero])
      refine wpAnyH_take (i := 17) (v := undef) rfl (by kernel_rfl) (by kernel_rfl) (by kernel_rfl) (fun _ _ _ h => h) (Or.inr ⟨by kernel_rfl, rfl⟩) (by assumption) ?_
      (try simp only [Act.put, List.setIfInBounds_toArray, List.set_cons_zero, List.set_cons_succ, List.getElem_toArray, List.getElem_cons_succ, List.getElem_cons_zero])
      refine wpAnyH_take (i := 18) (v := undef) rfl (by kernel_rfl) (by kernel_rfl) (by kernel_rfl) (fun _ _ _ h => h) (Or.inr ⟨by kernel_rfl, rfl⟩) (by assumption) ?_
      (try simp only [Act.put, List.setIfInBounds_toArray, List.set_cons_zero, List.set_cons_succ, List.getElem_toArray, List.getElem_cons_succ, List.getElem_cons_zero])
      refine wpAnyH_take (i := 19) (v := undef) rfl (by kernel_rfl) (by kernel_rfl) (by kernel_rfl) (fun _ _ _ h => h) (Or.inr ⟨by kernel_rfl, rfl⟩) (by assumption) ?_
      (try simp only [Act.put, List.setIfInBounds_toArray, List.set_cons_zero, List.set_cons_succ, List.getElem_toArray, List.getElem_cons_succ, List.getElem_cons_zero])
      refine wpAnyH_take (i := 20) (v := ?_) rfl (by kernel_rfl) (by kernel_rfl) (by kernel_rfl) (fun _ _ _ h => h) (Or.inl ⟨by rfl, ?_⟩) (by assumption) ?_
      rotate_left
      · intro w hSw
        (try dsimp only at hSw)
        go_simp
        (try with_reducible rfl)
      (try simp only [Act.put, List.setIfInBounds_toArray, List.set_cons_zero, List.set_cons_succ, List.getElem_toArray, List.getElem_cons_succ, List.getElem_cons_zero])
      refine wpAnyH_take (i := 21) (v := ?_) rfl (by kernel_rfl) (by kernel_rfl) (by kernel_rfl) (fun _ _ _ h => h) (Or.inl ⟨by rfl, ?_⟩) (by assumption) ?_
      rotate_left
      · intro w hSw
        (try dsimp only at hSw)
        go_simp
        (try with_reducible rfl)
      (try simp only [Act.put, List.setIfInBounds_toArray, List.set_cons_zero, List.set_cons_succ, List.getElem_toArray, List.getElem_cons_succ, List.getElem_cons_zero])
      refine wpAnyH_take (i := 22) (v := undef) rfl (by kernel_rfl) (by kernel_rfl) (by kernel_rfl) (fun _ _ _ h => h) (Or.inr ⟨by kernel_rfl, rfl⟩) (by assumption) ?_
      (try simp only [Act.put, List.setIfInBounds_toArray, List.set_cons_zero, List.set_cons_succ, List.getElem_toArray, List.getElem_cons_succ, List.getElem_cons_zero])
      refine wpAnyH_take (i := 23) (v := undef) rfl (by kernel_rfl) (by kernel_rfl) (by kernel_rfl) (fun _ _ _ h => h) (Or.inr ⟨by kernel_rfl, rfl⟩) (by assumption) ?_
      (try simp only [Act.put, List.setIfInBounds_toArray, List.set_cons_zero, List.set_cons_succ, List.getElem_toArray, List.getElem_cons_succ, List.getElem_cons_zero])
      refine wpAnyH_take (i := 24) (v := undef) rfl (by kernel_rfl) (by kernel_rfl) (by kernel_rfl) (fun _ _ _ h => h) (Or.inr ⟨by kernel_rfl, rfl⟩) (by assumption) ?_
      (try simp only [Act.put, List.setIfInBounds_toArray, List.set_cons_zero, List.set_cons_succ, List.getElem_toArray, List.getElem_cons_succ, List.getElem_cons_zero])
      refine wpAnyH_take (i := 25) (v := ?_) rfl (by kernel_rfl) (by kernel_rfl) (by kernel_rfl) (fun _ _ _ h => h) (Or.inl ⟨by rfl, ?_⟩) (by assumption) ?_
      rotate_left
      · intro w hSw
        (try dsimp only at hSw)
        go_simp
        (try with_reducible rfl)
      (try simp only [Act.put, List.setIfInBounds_toArray, List.set_cons_zero, List.set_cons_succ, List.getElem_toArray, List.getElem_cons_succ, List.getElem_cons_zero])
      refine wpAnyH_take (i := 26) (v := ?_) rfl (by kernel_rfl) (by kernel_rfl) (by kernel_rfl) (fun _ _ _ h => h) (Or.inl ⟨by rfl, ?_⟩) (by assumption) ?_
      rotate_left
      · intro w hSw
        (try dsimp only at hSw)
        go_simp
        (try with_reducible rfl)
      (try simp only [Act.put, List.setIfInBounds_toArray, List.set_cons_zero, List.set_cons_succ, List.getElem_toArray, List.getElem_cons_succ, List.getElem_cons_zero])
      refine wpAnyH_take (i := 27) (v := ?_) rfl (by kernel_rfl) (by kernel_rfl) (by kernel_rfl) (fun _ _ _ h => h) (Or.inl ⟨by rfl, ?_⟩) (by assumption) ?_
      rotate_left
      · intro w hSw
        (try dsimp only at hSw)
        go_simp
        (try with_reducible rfl)
      (try simp only [Act.put, List.setIfInBounds_toArray, List.set_cons_zero, List.set_cons_succ, List.getElem_toArray, List.getElem_cons_succ, List.getElem_cons_zero])
      refine wpAnyH_ready (rs := [28]) (by kernel_rfl) (by simp) ?_
      refine AllReadyH.cons rfl (fun K hK => ?_) AllReadyH.nil
      go_simp
      (go_at_call 11; refine (lives_any _).mono ?_; rintro e w4 ⟨rfl, hb⟩; replace H := Lib.hid (H.out.kept hb); replace HT := Lib.hid (HT.out.below hb); clear hb)
      refine hK.out _ _ (by exact ⟨e15 _ HT.out, H.out.st.pc, H.out.ins⟩) (fun hHeld => ?_)
      clear hK K
      (try simp only [Act.put, List.setIfInBounds_toArray, List.set_cons_zero, List.set_cons_succ, List.getElem_toArray, List.getElem_cons_succ, List.getElem_cons_zero])
      refine wpAnyH_take (i := 29) (v := ?_) rfl (by kernel_rfl) (by kernel_rfl) (by kernel_rfl) (fun _ _ _ h => h) (Or.inl ⟨by rfl, ?_⟩) (by assumption) ?_
      rotate_left
      · intro w hSw
        (try dsimp only at hSw)
        go_simp
        (try with_reducible rfl)
      (try simp only [Act.put, List.setIfInBounds_toArray, List.set_cons_zero, List.set_cons_succ, List.getElem_toArray, List.getElem_cons_succ, List.getElem_cons_zero])
      refine wpAnyH_take (i := 30) (v := ?_) rfl (by kernel_rfl) (by kernel_rfl) (by kernel_rfl) (fun _ _ _ h => h) (Or.inl ⟨by rfl, ?_⟩) (by assumption) ?_
      rotate_left
      · intro w hSw
        (try dsimp only at hSw)
        go_simp
        (try with_reducible rfl)
      (try simp only [Act.put, List.setIfInBounds_toArray, List.set_cons_zero, List.set_cons_succ, List.getElem_toArray, List.getElem_cons_succ, List.getElem_cons_zero])
      refine wpAnyH_done (by kernel_rfl) ?_ _
      go_wp2
      go_ret
      exact ⟨rfl, H.out.bel⟩
set_option maxHeartbeats 8000000 in
set_option maxRecDepth 100000 in
theorem keeps_v2 (s0 : Cs.St) (rd1 rn1 rm1 ra1 imm1 cond1 : Int) (wide1 : Bool) (a2 : Int) (w : World) (hB : Cs.stepB ⟨24, rd1, rn1, rm1, ra1, imm1, cond1, wide1⟩ = true) (hX : ((Cs.stepS s0 ⟨24, rd1, rn1, rm1, ra1, imm1, cond1, wide1⟩ a2).n = s0.n ∧ (Cs.stepS s0 ⟨24, rd1, rn1, rm1, ra1, imm1, cond1, wide1⟩ a2).z = s0.z ∧ (Cs.stepS s0 ⟨24, rd1, rn1, rm1, ra1, imm1, cond1, wide1⟩ a2).c = s0.c ∧ (Cs.stepS s0 ⟨24, rd1, rn1, rm1, ra1, imm1, cond1, wide1⟩ a2).v = s0.v) ∧ ((Cs.stepS s0 ⟨24, rd1, rn1, rm1, ra1, imm1, cond1, wide1⟩ a2).pc == Wd.add (Wd.wrap s0.pc) (Th.size ⟨24, rd1, rn1, rm1, ra1, imm1, cond1, wide1⟩)) = false) :
    Calls Try.prog 7 #[.agg (Cs.cells s0), .agg #[.int .i64 24, .int .i64 rd1, .int .i64 rn1, .int .i64 rm1, .int .i64 ra1, .int .i64 imm1, .int .i64 cond1, .bool wide1], .int .i64 a2] w fun e w' => e = .returned (.bool true) ∧ Below w.heap.size w w' := by
  have H := Lib.hid (Cpu2.new w s0 24 rd1 rn1 rm1 ra1 imm1 cond1 wide1)
  obtain ⟨T, hT⟩ : ∃ T, T = Cs.stepS s0 ⟨24, rd1, rn1, rm1, ra1, imm1, cond1, wide1⟩ a2 := ⟨_, rfl⟩
  have hR : ∀ k : Nat, ¬ (k : Int) = rd1 → ¬ ((k : Int) = ra1 ∧ (24 : Int) = 17) → T.r k = Wd.wrap (s0.r k) := fun k h1 h2 => by rw [hT]; exact Cs.keeps_r s0 a2 hB k h1 h2
  have C0 : Hid (∀ w : World, Calls Try.prog 9 #[.agg (Cs.cells s0), .agg #[.int .i64 24, .int .i64 rd1, .int .i64 rn1, .int .i64 rm1, .int .i64 ra1, .int .i64 imm1, .int .i64 cond1, .bool wide1], .int .i64 a2] w fun e w' => e = .returned (.tuple #[.agg (Cs.cells T), .bool true]) ∧ Below w.heap.size w w') := by
    refine Lib.hid fun w => ?_
    have h := step_any s0 24 rd1 rn1 rm1 ra1 imm1 cond1 a2 wide1 w
    rw [hB, ← hT] at h
    exact h
  rw [← hT] at hX
  have HR := Lib.hid hR
  have HX := Lib.hid hX
  clear hR hX hT hB
  go_enter Try.func7, Try.ntmps7
  go_wp2_with (first | go_skip | ((with_reducible refine wpList_load_st H.out.st ?_ ?_); exact rfl) | (go_at_call 9; refine (C0.out _).mono ?_; rintro e w1 ⟨rfl, hb⟩; replace H := Lib.hid (H.out.kept hb); obtain ⟨i0, i1, i2, i3, i4, i5, i6, i7⟩ := H.out.ins; clear hb) | ((with_reducible refine wpList_store_st (state_alloc_zero _) T ?_ ?_); exact rfl; rw [World.setRow_alloc_new]; replace H := Lib.hid (H.out.alloc (.cells (Cs.cells T) 24)); have HT := Lib.hid (state_alloc w1 T); generalize World.alloc w1 _ = W2 at *; generalize w1.heap.size = bT at *; obtain ⟨i0, i1, i2, i3, i4, i5, i6, i7⟩ := H.out.ins))
  have Hs := H.out
  have HTs := HT.out
  clear i0 i1 i2 i3 i4 i5 i6 i7 H HT
  go_loopw [9] (fun K W => ∃ k : Nat, K = .int .i64 (k : Int) ∧ k ≤ 15 ∧ Cpu2 w w.heap.size W s0 24 rd1 rn1 rm1 ra1 imm1 cond1 wide1 ∧ StateAt W bT T) (fun K _ => 15 - (intOf K).toNat)
  case atStart => exact ⟨0, rfl, Nat.zero_le _, Hs, HTs⟩
  case round =>
    obtain ⟨k, rfl, hk, H0, HT0⟩ := hrel
    have H := Lib.hid H0
    have HT := Lib.hid HT0
    clear H0 HT0 Hs HTs
    by_cases hlt : k < 15
    · have hlt' : (k : Int) < 15 := by omega
      have hk0 : (0 : Int) ≤ (k : Int) := by omega
      have aK : bits .and .i64 (s0.r k) 4294967295 = Wd.wrap (s0.r k) := Wd.and_ones _
      have sk := H.out.st.reg k hlt
      have tk0 := HT.out.reg k hlt
      obtain ⟨i0, i1, i2, i3, i4, i5, i6, i7⟩ := H.out.ins
      cases hrd : ((k : Int) == rd1)
      · cases hra : ((k : Int) == ra1)
        · have tk : wr.cell? ⟨bT, k, none⟩ = some (.int .i64 (Wd.wrap (s0.r k))) := by rw [← HR.out k (by simpa using hrd) (fun h => by simp [h.1] at hra)]; exact tk0
          clear tk0
          go_wp2_with (first | go_skip | ((with_reducible refine wpList_take ?_ ?_); exact rfl; intro _ _))
          go_quiet (fail)
          go_wp2
          exact ⟨⟨k + 1, by go_num, by omega, H.out.kept (below_drewC (Below.refl _ _) nq), HT.out.below (below_drewC (Below.refl _ _) nq)⟩, by simp [intOf]; omega⟩
        · have tk : wr.cell? ⟨bT, k, none⟩ = some (.int .i64 (Wd.wrap (s0.r k))) := by rw [← HR.out k (by simpa using hrd) (fun h => absurd h.2 (by decide))]; exact tk0
          clear tk0
          go_wp2_with (first | go_skip | ((with_reducible refine wpList_take ?_ ?_); exact rfl; intro _ _))
          go_quiet (fail)
          go_wp2
          exact ⟨⟨k + 1, by go_num, by omega, H.out.kept (below_drewC (Below.refl _ _) nq), HT.out.below (below_drewC (Below.refl _ _) nq)⟩, by simp [intOf]; omega⟩
      · go_wp2_with (first | go_skip | ((with_reducible refine wpList_take ?_ ?_); exact rfl; intro _ _))
        go_quiet (fail)
        go_wp2
        exact ⟨⟨k + 1, by go_num, by omega, H.out.kept (below_drewC (Below.refl _ _) nq), HT.out.below (below_drewC (Below.refl _ _) nq)⟩, by simp [intOf]; omega⟩
    · obtain rfl : k = 15 := by omega
      have hge : ¬ (15 : Int) < 15 := by omega
      have hand : ∀ x : Int, bits .and .i64 (IntKind.i64.wrap (s0.pc + x)) 4294967295 = Wd.add (Wd.wrap s0.pc) x := fun x => by rw [Wd.and_ones, IntKind.wrap_i64]; unfold Wd.add Wd.wrap; omega
      obtain ⟨i0, i1, i2, i3, i4, i5, i6, i7⟩ := H.out.ins
      have sn := H.out.st.n
      have tn := HT.out.n
      have sz := H.out.st.z
      have tz := HT.out.z
      have sc := H.out.st.c
      have tc := HT.out.c
      have sv := H.out.st.v
      have tv := HT.out.v
      obtain ⟨x1, x2, x3, x4⟩ := HX.out.1
      rw [x1] at tn
      rw [x2] at tz
      rw [x3] at tc
      rw [x4] at tv
      clear x1 x2 x3 x4
      have xp := HX.out.2
      go_wp2_with (first | go_skip | ((with_reducible refine wpList_take ?_ ?_); exact rfl; intro _ _))
      replace H := Lib.hid H.out.drew
      replace HT : Hid (StateAt wr.drew bT T) := Lib.hid (HT.out.below (Below.refl _ _).drew)
      clear i0 i1 i2 i3 i4 i5 i6 i7 sn sz sc sv tn tz tc tv
      have e15 : ∀ W, StateAt W bT T → W.cell? ⟨bT, 15, none⟩ = some (.int .i64 T.pc) := fun W h => h.pc
      refine wp_region_held_drew (S := fun wx => wx.cell? ⟨bT, 15, none⟩ = some (.int .i64 T.pc) ∧ wx.cell? ⟨w.heap.size, 15, none⟩ = some (.int .i64 s0.pc) ∧ InsAt wx (w.heap.size + 1) 24 rd1 rn1 rm1 ra1 imm1 cond1 wide1) (by kernel_rfl) (⟨e15 _ HT.out, H.out.st.pc, H.out.ins⟩) (fun hHeld => ?_)
      refine wpAnyH_take (i := 0) (v := ?_) rfl (by kernel_rfl) (by kernel_rfl) (by kernel_rfl) (fun _ _ _ h => h) (Or.inl ⟨by rfl, ?_⟩) (by assumption) ?_
      rotate_left
      · intro w hSw
        (try dsimp only at hSw)
        go_simp
        (try with_reducible rfl)
      (try simp only [Act.put, List.setIfInBounds_toArray, List.set_cons_zero, List.set_cons_succ, List.getElem_toArray, List.getElem_cons_succ, List.getElem_cons_zero])
      refine wpAnyH_take (i := 1) (v := ?_) rfl (by kernel_rfl) (by kernel_rfl) (by kernel_rfl) (fun _ _ _ h => h) (Or.inl ⟨by rfl, ?_⟩) (by assumption) ?_
      rotate_left
      · intro w hSw
        (try dsimp only at hSw)
        go_simp
        (try with_reducible rfl)
      (try simp only [Act.put, List.setIfInBounds_toArray, List.set_cons_zero, List.set_cons_succ, List.getElem_toArray, List.getElem_cons_succ, List.getElem_cons_zero])
      refine wpAnyH_take (i := 2) (v := undef) rfl (by kernel_rfl) (by kernel_rfl) (by kernel_rfl) (fun _ _ _ h => h) (Or.inr ⟨by kernel_rfl, rfl⟩) (by assumption) ?_
      (try simp only [Act.put, List.setIfInBounds_toArray, List.set_cons_zero, List.set_cons_succ, List.getElem_toArray, List.getElem_cons_succ, List.getElem_cons_zero])
      refine wpAnyH_take (i := 3) (v := undef) rfl (by kernel_rfl) (by kernel_rfl) (by kernel_rfl) (fun _ _ _ h => h) (Or.inr ⟨by kernel_rfl, rfl⟩) (by assumption) ?_
      (try simp only [Act.put, List.setIfInBounds_toArray, List.set_cons_zero, List.set_cons_succ, List.getElem_toArray, List.getElem_cons_succ, List.getElem_cons_zero])
      refine wpAnyH_take (i := 4) (v := undef) rfl (by kernel_rfl) (by kernel_rfl) (by kernel_rfl) (fun _ _ _ h => h) (Or.inr ⟨by kernel_rfl, rfl⟩) (by assumption) ?_
      (try simp only [Act.put, List.setIfInBounds_toArray, List.set_cons_zero, List.set_cons_succ, List.getElem_toArray, List.getElem_cons_succ, List.getElem_cons_zero])
      refine wpAnyH_take (i := 5) (v := ?_) rfl (by kernel_rfl) (by kernel_rfl) (by kernel_rfl) (fun _ _ _ h => h) (Or.inl ⟨by rfl, ?_⟩) (by assumption) ?_
      rotate_left
      · intro w hSw
        (try dsimp only at hSw)
        go_simp
        (try with_reducible rfl)
      (try simp only [Act.put, List.setIfInBounds_toArray, List.set_cons_zero, List.set_cons_succ, List.getElem_toArray, List.getElem_cons_succ, List.getElem_cons_zero])
      refine wpAnyH_take (i := 6) (v := ?_) rfl (by kernel_rfl) (by kernel_rfl) (by kernel_rfl) (fun _ _ _ h => h) (Or.inl ⟨by rfl, ?_⟩) (by assumption) ?_
      rotate_left
      · intro w hSw
        (try dsimp only at hSw)
        go_simp
        (try with_reducible rfl)
      (try simp only [Act.put, List.setIfInBounds_toArray, List.set_cons_zero, List.set_cons_succ, List.getElem_toArray, List.getElem_cons_succ, List.getElem_cons_zero])
      refine wpAnyH_take (i := 7) (v := ?_) rfl (by kernel_rfl) (by kernel_rfl) (by kernel_rfl) (fun _ _ _ h => h) (Or.inl ⟨by rfl, ?_⟩) (by assumption) ?_
      rotate_left
      · intro w hSw
        (try dsimp only at hSw)
        go_simp
        (try with_reducible rfl)
      (try simp only [Act.put, List.setIfInBounds_toArray, List.set_cons_zero, List.set_cons_succ, List.getElem_toArray, List.getElem_cons_succ, List.getElem_cons_zero])
      refine wpAnyH_take (i := 8) (v := ?_) rfl (by kernel_rfl) (by kernel_rfl) (by kernel_rfl) (fun _ _ _ h => h) (Or.inl ⟨by rfl, ?_⟩) (by assumption) ?_
      rotate_left
      · intro w hSw
        (try dsimp only at hSw)
        go_simp
        (try with_reducible rfl)
      (try simp only [Act.put, List.setIfInBounds_toArray, List.set_cons_zero, List.set_cons_succ, List.getElem_toArray, List.getElem_cons_succ, List.getElem_cons_zero])
      refine wpAnyH_take (i := 9) (v := ?_) rfl (by kernel_rfl) (by kernel_rfl) (by kernel_rfl) (fun _ _ _ h => h) (Or.inl ⟨by rfl, ?_⟩) (by assumption) ?_
      rotate_left
      · intro w hSw
        (try dsimp only at hSw)
        go_simp
        (try with_reducible rfl)
      (try simp only [Act.put, List.setIfInBounds_toArray, List.set_cons_zero, List.set_cons_succ, List.getElem_toArray, List.getElem_cons_succ, List.getElem_cons_zero])
      refine wpAnyH_take (i := 10) (v := ?_) rfl (by kernel_rfl) (by kernel_rfl) (by kernel_rfl) (fun _ _ _ h => h) (Or.inl ⟨by rfl, ?_⟩) (by assumption) ?_
      rotate_left
      · intro w hSw
        (try dsimp only at hSw)
        go_simp
        (try with_reducible rfl)
      (try simp only [Act.put, List.setIfInBounds_toArray, List.set_cons_zero, List.set_cons_succ, List.getElem_toArray, List.getElem_cons_succ, List.getElem_cons_zero])
      refine wpAnyH_take (i := 11) (v := ?_) rfl (by kernel_rfl) (by kernel_rfl) (by kernel_rfl) (fun _ _ _ h => h) (Or.inl ⟨by rfl, ?_⟩) (by assumption) ?_
      rotate_left
      · intro w hSw
        (try dsimp only at hSw)
        go_simp
        (try with_reducible rfl)
      (try simp only [Act.put, List.setIfInBounds_toArray, List.set_cons_zero, List.set_cons_succ, List.getElem_toArray, List.getElem_cons_succ, List.getElem_cons_zero])
      refine wpAnyH_ready (rs := [12]) (by kernel_rfl) (by simp) ?_
      refine AllReadyH.cons rfl (fun K hK => ?_) AllReadyH.nil
      go_simp
      (go_at_call 20; refine (size_any _ _ _ _ _ _ _ _ _).mono ?_; rintro e w3 ⟨rfl, hb⟩; replace H := Lib.hid (H.out.kept hb); replace HT := Lib.hid (HT.out.below hb); clear hb)
      refine hK.out _ _ (by exact ⟨e15 _ HT.out, H.out.st.pc, H.out.ins⟩) (fun hHeld => ?_)
      clear hK K
      (try simp only [Act.put, List.setIfInBounds_toArray, List.set_cons_zero, List.set_cons_succ, List.getElem_toArray, List.getElem_cons_succ, List.getElem_cons_zero])
      refine wpAnyH_take (i := 13) (v := ?_) rfl (by kernel_rfl) (by kernel_rfl) (by kernel_rfl) (fun _ _ _ h => h) (Or.inl ⟨by rfl, ?_⟩) (by assumption) ?_
      rotate_left
      · intro w hSw
        (try dsimp only at hSw)
        go_simp
        (try with_reducible rfl)
      (try simp only [Act.put, List.setIfInBounds_toArray, List.set_cons_zero, List.set_cons_succ, List.getElem_toArray, List.getElem_cons_succ, List.getElem_cons_zero])
      refine wpAnyH_take (i := 14) (v := ?_) rfl (by kernel_rfl) (by kernel_rfl) (by kernel_rfl) (fun _ _ _ h => h) (Or.inl ⟨by rfl, ?_⟩) (by assumption) ?_
      rotate_left
      · intro w hSw
        (try dsimp only at hSw)
        go_simp
        (try with_reducible rfl)
      (try simp only [Act.put, List.setIfInBounds_toArray, List.set_cons_zero, List.set_cons_succ, List.getElem_toArray, List.getElem_cons_succ, List.getElem_cons_zero])
      refine wpAnyH_take (i := 15) (v := ?_) rfl (by kernel_rfl) (by kernel_rfl) (by kernel_rfl) (fun _ _ _ h => h) (Or.inl ⟨by rfl, ?_⟩) (by assumption) ?_
      rotate_left
      · intro w hSw
        (try dsimp only at hSw)
        go_simp
        (try with_reducible rfl)
      (try simp only [Act.put, List.setIfInBounds_toArray, List.set_cons_zero, List.set_cons_succ, List.getElem_toArray, List.getElem_cons_succ, List.getElem_cons_zero])
      refine wpAnyH_take (i := 16) (v := ?_) rfl (by kernel_rfl) (by kernel_rfl) (by kernel_rfl) (fun _ _ _ h => h) (Or.inl ⟨by rfl, ?_⟩) (by assumption) ?_
      rotate_left
      · intro w hSw
        (try dsimp only at hSw)
        go_simp
        (try with_reducible rfl)
      (try simp only [Act.put, List.setIfInBounds_toArray, List.set_cons_zero, List.set_cons_succ, List.getElem_toArray, List.getElem_cons_succ, List.getElem_cons_zero])
      refine wpAnyH_take (i := 17) (v := ?_) rfl (by kernel_rfl) (by kernel_rfl) (by kernel_rfl) (fun _ _ _ h => h) (Or.inl ⟨by rfl, ?_⟩) (by assumption) ?_
      rotate_left
      · intro w hSw
        (try dsimp only at hSw)
        go_simp
        (try with_reducible rfl)
      (try simp only [Act.put, List.setIfInBounds_toArray, List.set_cons_zero, List.set_cons_succ, List.getElem_toArray, List.getElem_cons_succ, List.getElem_cons_zero])
      refine wpAnyH_take (i := 18) (v := ?_) rfl (by kernel_rfl) (by kernel_rfl) (by kernel_rfl) (fun _ _ _ h => h) (Or.inl ⟨by rfl, ?_⟩) (by assumption) ?_
      rotate_left
      · intro w hSw
        (try dsimp only at hSw)
        go_simp
        (try with_reducible rfl)
      (try simp only [Act.put, List.setIfInBounds_toArray, List.set_cons_zero, List.set_cons_succ, List.getElem_toArray, List.getElem_cons_succ, List.getElem_cons_zero])
      refine wpAnyH_take (i := 19) (v := ?_) rfl (by kernel_rfl) (by kernel_rfl) (by kernel_rfl) (fun _ _ _ h => h) (Or.inl ⟨by rfl, ?_⟩) (by assumption) ?_
      rotate_left
      · intro w hSw
        (try dsimp only at hSw)
        go_simp
        (try with_reducible rfl)
      (try simp only [Act.put, List.setIfInBounds_toArray, List.set_cons_zero, List.set_cons_succ, List.getElem_toArray, List.getElem_cons_succ, List.getElem_cons_zero])
      refine wpAnyH_take (i := 20) (v := ?_) rfl (by kernel_rfl) (by kernel_rfl) (by kernel_rfl) (fun _ _ _ h => h) (Or.inl ⟨by rfl, ?_⟩) (by assumption) ?_
      rotate_left
      · intro w hSw
        (try dsimp only at hSw)
        go_simp
        (try with_reducible rfl)
      (try simp only [Act.put, List.setIfInBounds_toArray, List.set_cons_zero, List.set_cons_succ, List.getElem_toArray, List.getElem_cons_succ, List.getElem_cons_zero])
      refine wpAnyH_take (i := 21) (v := ?_) rfl (by kernel_rfl) (by kernel_rfl) (by kernel_rfl) (fun _ _ _ h => h) (Or.inl ⟨by rfl, ?_⟩) (by assumption) ?_
      rotate_left
      · intro w hSw
        (try dsimp only at hSw)
        go_simp
        (try with_reducible rfl)
      (try simp only [Act.put, List.setIfInBounds_toArray, List.set_cons_zero, List.set_cons_succ, List.getElem_toArray, List.getElem_cons_succ, List.getElem_cons_zero])
      refine wpAnyH_take (i := 22) (v := undef) rfl (by kernel_rfl) (by kernel_rfl) (by kernel_rfl) (fun _ _ _ h => h) (Or.inr ⟨by kernel_rfl, rfl⟩) (by assumption) ?_
      (try simp only [Act.put, List.setIfInBounds_toArray, List.set_cons_zero, List.set_cons_succ, List.getElem_toArray, List.getElem_cons_succ, List.getElem_cons_zero])
      refine wpAnyH_take (i := 23) (v := undef) rfl (by kernel_rfl) (by kernel_rfl) (by kernel_rfl) (fun _ _ _ h => h) (Or.inr ⟨by kernel_rfl, rfl⟩) (by assumption) ?_
      (try simp only [Act.put, List.setIfInBounds_toArray, List.set_cons_zero, List.set_cons_succ, List.getElem_toArray, List.getElem_cons_succ, List.getElem_cons_zero])
      refine wpAnyH_take (i := 24) (v := undef) rfl (by kernel_rfl) (by kernel_rfl) (by kernel_rfl) (fun _ _ _ h => h) (Or.inr ⟨by kernel_rfl, rfl⟩) (by assumption) ?_
      (try simp only [Act.put, List.setIfInBounds_toArray, List.set_cons_zero, List.set_cons_succ, List.getElem_toArray, List.getElem_cons_succ, List.getElem_cons_zero])
      refine wpAnyH_take (i := 25) (v := ?_) rfl (by kernel_rfl) (by kernel_rfl) (by kernel_rfl) (fun _ _ _ h => h) (Or.inl ⟨by rfl, ?_⟩) (by assumption) ?_
      rotate_left
      · intro w hSw
        (try dsimp only at hSw)
        go_simp
        (try with_reducible rfl)
      (try simp only [Act.put, List.setIfInBounds_toArray, List.set_cons_zero, List.set_cons_succ, List.getElem_toArray, List.getElem_cons_succ, List.getElem_cons_zero])
      refine wpAnyH_take (i := 26) (v := ?_) rfl (by kernel_rfl) (by kernel_rfl) (by kernel_rfl) (fun _ _ _ h => h) (Or.inl ⟨by rfl, ?_⟩) (by assumption) ?_
      rotate_left
      · intro w hSw
        (try dsimp only at hSw)
        go_simp
        (try with_reducible rfl)
      (try simp only [Act.put, List.setIfInBounds_toArray, List.set_cons_zero, List.set_cons_succ, List.getElem_toArray, List.getElem_cons_succ, List.getElem_cons_zero])
      refine wpAnyH_take (i := 27) (v := ?_) rfl (by kernel_rfl) (by kernel_rfl) (by kernel_rfl) (fun _ _ _ h => h) (Or.inl ⟨by rfl, ?_⟩) (by assumption) ?_
      rotate_left
      · intro w hSw
        (try dsimp only at hSw)
        go_simp
        (try with_reducible rfl)
      (try simp only [Act.put, List.setIfInBounds_toArray, List.set_cons_zero, List.set_cons_succ, List.getElem_toArray, List.getElem_cons_succ, List.getElem_cons_zero])
      refine wpAnyH_ready (rs := [28]) (by kernel_rfl) (by simp) ?_
      refine AllReadyH.cons rfl (fun K hK => ?_) AllReadyH.nil
      go_simp
      (go_at_call 11; refine (lives_any _).mono ?_; rintro e w4 ⟨rfl, hb⟩; replace H := Lib.hid (H.out.kept hb); replace HT := Lib.hid (HT.out.below hb); clear hb)
      refine hK.out _ _ (by exact ⟨e15 _ HT.out, H.out.st.pc, H.out.ins⟩) (fun hHeld => ?_)
      clear hK K
      (try simp only [Act.put, List.setIfInBounds_toArray, List.set_cons_zero, List.set_cons_succ, List.getElem_toArray, List.getElem_cons_succ, List.getElem_cons_zero])
      refine wpAnyH_take (i := 29) (v := ?_) rfl (by kernel_rfl) (by kernel_rfl) (by kernel_rfl) (fun _ _ _ h => h) (Or.inl ⟨by rfl, ?_⟩) (by assumption) ?_
      rotate_left
      · intro w hSw
        (try dsimp only at hSw)
        go_simp
        (try with_reducible rfl)
      (try simp only [Act.put, List.setIfInBounds_toArray, List.set_cons_zero, List.set_cons_succ, List.getElem_toArray, List.getElem_cons_succ, List.getElem_cons_zero])
      refine wpAnyH_take (i := 30) (v := ?_) rfl (by kernel_rfl) (by kernel_rfl) (by kernel_rfl) (fun _ _ _ h => h) (Or.inl ⟨by rfl, ?_⟩) (by assumption) ?_
      rotate_left
      · intro w hSw
        (try dsimp only at hSw)
        go_simp
        (try with_reducible rfl)
      (try simp only [Act.put, List.setIfInBounds_toArray, List.set_cons_zero, List.set_cons_succ, List.getElem_toArray, List.getElem_cons_succ, List.getElem_cons_zero])
      refine wpAnyH_done (by kernel_rfl) ?_ _
      go_wp2
      go_ret
      exact ⟨rfl, H.out.bel⟩
set_option maxHeartbeats 8000000 in
set_option maxRecDepth 100000 in
theorem keeps_v3 (s0 : Cs.St) (rd1 rn1 rm1 ra1 imm1 cond1 : Int) (wide1 : Bool) (a2 : Int) (w : World) (hB : Cs.stepB ⟨25, rd1, rn1, rm1, ra1, imm1, cond1, wide1⟩ = true) (hX : ((Cs.stepS s0 ⟨25, rd1, rn1, rm1, ra1, imm1, cond1, wide1⟩ a2).n = s0.n ∧ (Cs.stepS s0 ⟨25, rd1, rn1, rm1, ra1, imm1, cond1, wide1⟩ a2).z = s0.z ∧ (Cs.stepS s0 ⟨25, rd1, rn1, rm1, ra1, imm1, cond1, wide1⟩ a2).c = s0.c ∧ (Cs.stepS s0 ⟨25, rd1, rn1, rm1, ra1, imm1, cond1, wide1⟩ a2).v = s0.v) ∧ ((Cs.stepS s0 ⟨25, rd1, rn1, rm1, ra1, imm1, cond1, wide1⟩ a2).pc == Wd.add (Wd.wrap s0.pc) (Th.size ⟨25, rd1, rn1, rm1, ra1, imm1, cond1, wide1⟩)) = false) :
    Calls Try.prog 7 #[.agg (Cs.cells s0), .agg #[.int .i64 25, .int .i64 rd1, .int .i64 rn1, .int .i64 rm1, .int .i64 ra1, .int .i64 imm1, .int .i64 cond1, .bool wide1], .int .i64 a2] w fun e w' => e = .returned (.bool true) ∧ Below w.heap.size w w' := by
  have H := Lib.hid (Cpu2.new w s0 25 rd1 rn1 rm1 ra1 imm1 cond1 wide1)
  obtain ⟨T, hT⟩ : ∃ T, T = Cs.stepS s0 ⟨25, rd1, rn1, rm1, ra1, imm1, cond1, wide1⟩ a2 := ⟨_, rfl⟩
  have hR : ∀ k : Nat, ¬ (k : Int) = rd1 → ¬ ((k : Int) = ra1 ∧ (25 : Int) = 17) → T.r k = Wd.wrap (s0.r k) := fun k h1 h2 => by rw [hT]; exact Cs.keeps_r s0 a2 hB k h1 h2
  have C0 : Hid (∀ w : World, Calls Try.prog 9 #[.agg (Cs.cells s0), .agg #[.int .i64 25, .int .i64 rd1, .int .i64 rn1, .int .i64 rm1, .int .i64 ra1, .int .i64 imm1, .int .i64 cond1, .bool wide1], .int .i64 a2] w fun e w' => e = .returned (.tuple #[.agg (Cs.cells T), .bool true]) ∧ Below w.heap.size w w') := by
    refine Lib.hid fun w => ?_
    have h := step_any s0 25 rd1 rn1 rm1 ra1 imm1 cond1 a2 wide1 w
    rw [hB, ← hT] at h
    exact h
  rw [← hT] at hX
  have HR := Lib.hid hR
  have HX := Lib.hid hX
  clear hR hX hT hB
  go_enter Try.func7, Try.ntmps7
  go_wp2_with (first | go_skip | ((with_reducible refine wpList_load_st H.out.st ?_ ?_); exact rfl) | (go_at_call 9; refine (C0.out _).mono ?_; rintro e w1 ⟨rfl, hb⟩; replace H := Lib.hid (H.out.kept hb); obtain ⟨i0, i1, i2, i3, i4, i5, i6, i7⟩ := H.out.ins; clear hb) | ((with_reducible refine wpList_store_st (state_alloc_zero _) T ?_ ?_); exact rfl; rw [World.setRow_alloc_new]; replace H := Lib.hid (H.out.alloc (.cells (Cs.cells T) 24)); have HT := Lib.hid (state_alloc w1 T); generalize World.alloc w1 _ = W2 at *; generalize w1.heap.size = bT at *; obtain ⟨i0, i1, i2, i3, i4, i5, i6, i7⟩ := H.out.ins))
  have Hs := H.out
  have HTs := HT.out
  clear i0 i1 i2 i3 i4 i5 i6 i7 H HT
  go_loopw [9] (fun K W => ∃ k : Nat, K = .int .i64 (k : Int) ∧ k ≤ 15 ∧ Cpu2 w w.heap.size W s0 25 rd1 rn1 rm1 ra1 imm1 cond1 wide1 ∧ StateAt W bT T) (fun K _ => 15 - (intOf K).toNat)
  case atStart => exact ⟨0, rfl, Nat.zero_le _, Hs, HTs⟩
  case round =>
    obtain ⟨k, rfl, hk, H0, HT0⟩ := hrel
    have H := Lib.hid H0
    have HT := Lib.hid HT0
    clear H0 HT0 Hs HTs
    by_cases hlt : k < 15
    · have hlt' : (k : Int) < 15 := by omega
      have hk0 : (0 : Int) ≤ (k : Int) := by omega
      have aK : bits .and .i64 (s0.r k) 4294967295 = Wd.wrap (s0.r k) := Wd.and_ones _
      have sk := H.out.st.reg k hlt
      have tk0 := HT.out.reg k hlt
      obtain ⟨i0, i1, i2, i3, i4, i5, i6, i7⟩ := H.out.ins
      cases hrd : ((k : Int) == rd1)
      · cases hra : ((k : Int) == ra1)
        · have tk : wr.cell? ⟨bT, k, none⟩ = some (.int .i64 (Wd.wrap (s0.r k))) := by rw [← HR.out k (by simpa using hrd) (fun h => by simp [h.1] at hra)]; exact tk0
          clear tk0
          go_wp2_with (first | go_skip | ((with_reducible refine wpList_take ?_ ?_); exact rfl; intro _ _))
          go_quiet (fail)
          go_wp2
          exact ⟨⟨k + 1, by go_num, by omega, H.out.kept (below_drewC (Below.refl _ _) nq), HT.out.below (below_drewC (Below.refl _ _) nq)⟩, by simp [intOf]; omega⟩
        · have tk : wr.cell? ⟨bT, k, none⟩ = some (.int .i64 (Wd.wrap (s0.r k))) := by rw [← HR.out k (by simpa using hrd) (fun h => absurd h.2 (by decide))]; exact tk0
          clear tk0
          go_wp2_with (first | go_skip | ((with_reducible refine wpList_take ?_ ?_); exact rfl; intro _ _))
          go_quiet (fail)
          go_wp2
          exact ⟨⟨k + 1, by go_num, by omega, H.out.kept (below_drewC (Below.refl _ _) nq), HT.out.below (below_drewC (Below.refl _ _) nq)⟩, by simp [intOf]; omega⟩
      · go_wp2_with (first | go_skip | ((with_reducible refine wpList_take ?_ ?_); exact rfl; intro _ _))
        go_quiet (fail)
        go_wp2
        exact ⟨⟨k + 1, by go_num, by omega, H.out.kept (below_drewC (Below.refl _ _) nq), HT.out.below (below_drewC (Below.refl _ _) nq)⟩, by simp [intOf]; omega⟩
    · obtain rfl : k = 15 := by omega
      have hge : ¬ (15 : Int) < 15 := by omega
      have hand : ∀ x : Int, bits .and .i64 (IntKind.i64.wrap (s0.pc + x)) 4294967295 = Wd.add (Wd.wrap s0.pc) x := fun x => by rw [Wd.and_ones, IntKind.wrap_i64]; unfold Wd.add Wd.wrap; omega
      obtain ⟨i0, i1, i2, i3, i4, i5, i6, i7⟩ := H.out.ins
      have sn := H.out.st.n
      have tn := HT.out.n
      have sz := H.out.st.z
      have tz := HT.out.z
      have sc := H.out.st.c
      have tc := HT.out.c
      have sv := H.out.st.v
      have tv := HT.out.v
      obtain ⟨x1, x2, x3, x4⟩ := HX.out.1
      rw [x1] at tn
      rw [x2] at tz
      rw [x3] at tc
      rw [x4] at tv
      clear x1 x2 x3 x4
      have xp := HX.out.2
      go_wp2_with (first | go_skip | ((with_reducible refine wpList_take ?_ ?_); exact rfl; intro _ _))
      replace H := Lib.hid H.out.drew
      replace HT : Hid (StateAt wr.drew bT T) := Lib.hid (HT.out.below (Below.refl _ _).drew)
      clear i0 i1 i2 i3 i4 i5 i6 i7 sn sz sc sv tn tz tc tv
      have e15 : ∀ W, StateAt W bT T → W.cell? ⟨bT, 15, none⟩ = some (.int .i64 T.pc) := fun W h => h.pc
      refine wp_region_held_drew (S := fun wx => wx.cell? ⟨bT, 15, none⟩ = some (.int .i64 T.pc) ∧ wx.cell? ⟨w.heap.size, 15, none⟩ = some (.int .i64 s0.pc) ∧ InsAt wx (w.heap.size + 1) 25 rd1 rn1 rm1 ra1 imm1 cond1 wide1) (by kernel_rfl) (⟨e15 _ HT.out, H.out.st.pc, H.out.ins⟩) (fun hHeld => ?_)
      refine wpAnyH_take (i := 0) (v := ?_) rfl (by kernel_rfl) (by kernel_rfl) (by kernel_rfl) (fun _ _ _ h => h) (Or.inl ⟨by rfl, ?_⟩) (by assumption) ?_
      rotate_left
      · intro w hSw
        (try dsimp only at hSw)
        go_simp
        (try with_reducible rfl)
      (try simp only [Act.put, List.setIfInBounds_toArray, List.set_cons_zero, List.set_cons_succ, List.getElem_toArray, List.getElem_cons_succ, List.getElem_cons_zero])
      refine wpAnyH_take (i := 1) (v := ?_) rfl (by kernel_rfl) (by kernel_rfl) (by kernel_rfl) (fun _ _ _ h => h) (Or.inl ⟨by rfl, ?_⟩) (by assumption) ?_
      rotate_left
      · intro w hSw
        (try dsimp only at hSw)
        go_simp
        (try with_reducible rfl)
      (try simp only [Act.put, List.setIfInBounds_toArray, List.set_cons_zero, List.set_cons_succ, List.getElem_toArray, List.getElem_cons_succ, List.getElem_cons_zero])
      refine wpAnyH_take (i := 2) (v := undef) rfl (by kernel_rfl) (by kernel_rfl) (by kernel_rfl) (fun _ _ _ h => h) (Or.inr ⟨by kernel_rfl, rfl⟩) (by assumption) ?_
      (try simp only [Act.put, List.setIfInBounds_toArray, List.set_cons_zero, List.set_cons_succ, List.getElem_toArray, List.getElem_cons_succ, List.getElem_cons_zero])
      refine wpAnyH_take (i := 3) (v := undef) rfl (by kernel_rfl) (by kernel_rfl) (by kernel_rfl) (fun _ _ _ h => h) (Or.inr ⟨by kernel_rfl, rfl⟩) (by assumption) ?_
      (try simp only [Act.put, List.setIfInBounds_toArray, List.set_cons_zero, List.set_cons_succ, List.getElem_toArray, List.getElem_cons_succ, List.getElem_cons_zero])
      refine wpAnyH_take (i := 4) (v := undef) rfl (by kernel_rfl) (by kernel_rfl) (by kernel_rfl) (fun _ _ _ h => h) (Or.inr ⟨by kernel_rfl, rfl⟩) (by assumption) ?_
      (try simp only [Act.put, List.setIfInBounds_toArray, List.set_cons_zero, List.set_cons_succ, List.getElem_toArray, List.getElem_cons_succ, List.getElem_cons_zero])
      refine wpAnyH_take (i := 5) (v := ?_) rfl (by kernel_rfl) (by kernel_rfl) (by kernel_rfl) (fun _ _ _ h => h) (Or.inl ⟨by rfl, ?_⟩) (by assumption) ?_
      rotate_left
      · intro w hSw
        (try dsimp only at hSw)
        go_simp
        (try with_reducible rfl)
      (try simp only [Act.put, List.setIfInBounds_toArray, List.set_cons_zero, List.set_cons_succ, List.getElem_toArray, List.getElem_cons_succ, List.getElem_cons_zero])
      refine wpAnyH_take (i := 6) (v := ?_) rfl (by kernel_rfl) (by kernel_rfl) (by kernel_rfl) (fun _ _ _ h => h) (Or.inl ⟨by rfl, ?_⟩) (by assumption) ?_
      rotate_left
      · intro w hSw
        (try dsimp only at hSw)
        go_simp
        (try with_reducible rfl)
      (try simp only [Act.put, List.setIfInBounds_toArray, List.set_cons_zero, List.set_cons_succ, List.getElem_toArray, List.getElem_cons_succ, List.getElem_cons_zero])
      refine wpAnyH_take (i := 7) (v := ?_) rfl (by kernel_rfl) (by kernel_rfl) (by kernel_rfl) (fun _ _ _ h => h) (Or.inl ⟨by rfl, ?_⟩) (by assumption) ?_
      rotate_left
      · intro w hSw
        (try dsimp only at hSw)
        go_simp
        (try with_reducible rfl)
      (try simp only [Act.put, List.setIfInBounds_toArray, List.set_cons_zero, List.set_cons_succ, List.getElem_toArray, List.getElem_cons_succ, List.getElem_cons_zero])
      refine wpAnyH_take (i := 8) (v := ?_) rfl (by kernel_rfl) (by kernel_rfl) (by kernel_rfl) (fun _ _ _ h => h) (Or.inl ⟨by rfl, ?_⟩) (by assumption) ?_
      rotate_left
      · intro w hSw
        (try dsimp only at hSw)
        go_simp
        (try with_reducible rfl)
      (try simp only [Act.put, List.setIfInBounds_toArray, List.set_cons_zero, List.set_cons_succ, List.getElem_toArray, List.getElem_cons_succ, List.getElem_cons_zero])
      refine wpAnyH_take (i := 9) (v := ?_) rfl (by kernel_rfl) (by kernel_rfl) (by kernel_rfl) (fun _ _ _ h => h) (Or.inl ⟨by rfl, ?_⟩) (by assumption) ?_
      rotate_left
      · intro w hSw
        (try dsimp only at hSw)
        go_simp
        (try with_reducible rfl)
      (try simp only [Act.put, List.setIfInBounds_toArray, List.set_cons_zero, List.set_cons_succ, List.getElem_toArray, List.getElem_cons_succ, List.getElem_cons_zero])
      refine wpAnyH_take (i := 10) (v := ?_) rfl (by kernel_rfl) (by kernel_rfl) (by kernel_rfl) (fun _ _ _ h => h) (Or.inl ⟨by rfl, ?_⟩) (by assumption) ?_
      rotate_left
      · intro w hSw
        (try dsimp only at hSw)
        go_simp
        (try with_reducible rfl)
      (try simp only [Act.put, List.setIfInBounds_toArray, List.set_cons_zero, List.set_cons_succ, List.getElem_toArray, List.getElem_cons_succ, List.getElem_cons_zero])
      refine wpAnyH_take (i := 11) (v := ?_) rfl (by kernel_rfl) (by kernel_rfl) (by kernel_rfl) (fun _ _ _ h => h) (Or.inl ⟨by rfl, ?_⟩) (by assumption) ?_
      rotate_left
      · intro w hSw
        (try dsimp only at hSw)
        go_simp
        (try with_reducible rfl)
      (try simp only [Act.put, List.setIfInBounds_toArray, List.set_cons_zero, List.set_cons_succ, List.getElem_toArray, List.getElem_cons_succ, List.getElem_cons_zero])
      refine wpAnyH_ready (rs := [12]) (by kernel_rfl) (by simp) ?_
      refine AllReadyH.cons rfl (fun K hK => ?_) AllReadyH.nil
      go_simp
      (go_at_call 20; refine (size_any _ _ _ _ _ _ _ _ _).mono ?_; rintro e w3 ⟨rfl, hb⟩; replace H := Lib.hid (H.out.kept hb); replace HT := Lib.hid (HT.out.below hb); clear hb)
      refine hK.out _ _ (by exact ⟨e15 _ HT.out, H.out.st.pc, H.out.ins⟩) (fun hHeld => ?_)
      clear hK K
      (try simp only [Act.put, List.setIfInBounds_toArray, List.set_cons_zero, List.set_cons_succ, List.getElem_toArray, List.getElem_cons_succ, List.getElem_cons_zero])
      refine wpAnyH_take (i := 13) (v := ?_) rfl (by kernel_rfl) (by kernel_rfl) (by kernel_rfl) (fun _ _ _ h => h) (Or.inl ⟨by rfl, ?_⟩) (by assumption) ?_
      rotate_left
      · intro w hSw
        (try dsimp only at hSw)
        go_simp
        (try with_reducible rfl)
      (try simp only [Act.put, List.setIfInBounds_toArray, List.set_cons_zero, List.set_cons_succ, List.getElem_toArray, List.getElem_cons_succ, List.getElem_cons_zero])
      refine wpAnyH_take (i := 14) (v := ?_) rfl (by kernel_rfl) (by kernel_rfl) (by kernel_rfl) (fun _ _ _ h => h) (Or.inl ⟨by rfl, ?_⟩) (by assumption) ?_
      rotate_left
      · intro w hSw
        (try dsimp only at hSw)
        go_simp
        (try with_reducible rfl)
      (try simp only [Act.put, List.setIfInBounds_toArray, List.set_cons_zero, List.set_cons_succ, List.getElem_toArray, List.getElem_cons_succ, List.getElem_cons_zero])
      refine wpAnyH_take (i := 15) (v := ?_) rfl (by kernel_rfl) (by kernel_rfl) (by kernel_rfl) (fun _ _ _ h => h) (Or.inl ⟨by rfl, ?_⟩) (by assumption) ?_
      rotate_left
      · intro w hSw
        (try dsimp only at hSw)
        go_simp
        (try with_reducible rfl)
      (try simp only [Act.put, List.setIfInBounds_toArray, List.set_cons_zero, List.set_cons_succ, List.getElem_toArray, List.getElem_cons_succ, List.getElem_cons_zero])
      refine wpAnyH_take (i := 16) (v := ?_) rfl (by kernel_rfl) (by kernel_rfl) (by kernel_rfl) (fun _ _ _ h => h) (Or.inl ⟨by rfl, ?_⟩) (by assumption) ?_
      rotate_left
      · intro w hSw
        (try dsimp only at hSw)
        go_simp
        (try with_reducible rfl)
      (try simp only [Act.put, List.setIfInBounds_toArray, List.set_cons_zero, List.set_cons_succ, List.getElem_toArray, List.getElem_cons_succ, List.getElem_cons_zero])
      refine wpAnyH_take (i := 17) (v := ?_) rfl (by kernel_rfl) (by kernel_rfl) (by kernel_rfl) (fun _ _ _ h => h) (Or.inl ⟨by rfl, ?_⟩) (by assumption) ?_
      rotate_left
      · intro w hSw
        (try dsimp only at hSw)
        go_simp
        (try with_reducible rfl)
      (try simp only [Act.put, List.setIfInBounds_toArray, List.set_cons_zero, List.set_cons_succ, List.getElem_toArray, List.getElem_cons_succ, List.getElem_cons_zero])
      refine wpAnyH_take (i := 18) (v := ?_) rfl (by kernel_rfl) (by kernel_rfl) (by kernel_rfl) (fun _ _ _ h => h) (Or.inl ⟨by rfl, ?_⟩) (by assumption) ?_
      rotate_left
      · intro w hSw
        (try dsimp only at hSw)
        go_simp
        (try with_reducible rfl)
      (try simp only [Act.put, List.setIfInBounds_toArray, List.set_cons_zero, List.set_cons_succ, List.getElem_toArray, List.getElem_cons_succ, List.getElem_cons_zero])
      refine wpAnyH_take (i := 19) (v := ?_) rfl (by kernel_rfl) (by kernel_rfl) (by kernel_rfl) (fun _ _ _ h => h) (Or.inl ⟨by rfl, ?_⟩) (by assumption) ?_
      rotate_left
      · intro w hSw
        (try dsimp only at hSw)
        go_simp
        (try with_reducible rfl)
      (try simp only [Act.put, List.setIfInBounds_toArray, List.set_cons_zero, List.set_cons_succ, List.getElem_toArray, List.getElem_cons_succ, List.getElem_cons_zero])
      refine wpAnyH_take (i := 20) (v := ?_) rfl (by kernel_rfl) (by kernel_rfl) (by kernel_rfl) (fun _ _ _ h => h) (Or.inl ⟨by rfl, ?_⟩) (by assumption) ?_
      rotate_left
      · intro w hSw
        (try dsimp only at hSw)
        go_simp
        (try with_reducible rfl)
      (try simp only [Act.put, List.setIfInBounds_toArray, List.set_cons_zero, List.set_cons_succ, List.getElem_toArray, List.getElem_cons_succ, List.getElem_cons_zero])
      refine wpAnyH_take (i := 21) (v := ?_) rfl (by kernel_rfl) (by kernel_rfl) (by kernel_rfl) (fun _ _ _ h => h) (Or.inl ⟨by rfl, ?_⟩) (by assumption) ?_
      rotate_left
      · intro w hSw
        (try dsimp only at hSw)
        go_simp
        (try with_reducible rfl)
      (try simp only [Act.put, List.setIfInBounds_toArray, List.set_cons_zero, List.set_cons_succ, List.getElem_toArray, List.getElem_cons_succ, List.getElem_cons_zero])
      refine wpAnyH_take (i := 22) (v := ?_) rfl (by kernel_rfl) (by kernel_rfl) (by kernel_rfl) (fun _ _ _ h => h) (Or.inl ⟨by rfl, ?_⟩) (by assumption) ?_
      rotate_left
      · intro w hSw
        (try dsimp only at hSw)
        go_simp
        (try with_reducible rfl)
      (try simp only [Act.put, List.setIfInBounds_toArray, List.set_cons_zero, List.set_cons_succ, List.getElem_toArray, List.getElem_cons_succ, List.getElem_cons_zero])
      refine wpAnyH_take (i := 23) (v := ?_) rfl (by kernel_rfl) (by kernel_rfl) (by kernel_rfl) (fun _ _ _ h => h) (Or.inl ⟨by rfl, ?_⟩) (by assumption) ?_
      rotate_left
      · intro w hSw
        (try dsimp only at hSw)
        go_simp
        (try with_reducible rfl)
      (try simp only [Act.put, List.setIfInBounds_toArray, List.set_cons_zero, List.set_cons_succ, List.getElem_toArray, List.getElem_cons_succ, List.getElem_cons_zero])
      refine wpAnyH_take (i := 24) (v := ?_) rfl (by kernel_rfl) (by kernel_rfl) (by kernel_rfl) (fun _ _ _ h => h) (Or.inl ⟨by rfl, ?_⟩) (by assumption) ?_
      rotate_left
      · intro w hSw
        (try dsimp only at hSw)
        go_simp
        (try with_reducible rfl)
      (try simp only [Act.put, List.setIfInBounds_toArray, List.set_cons_zero, List.set_cons_succ, List.getElem_toArray, List.getElem_cons_succ, List.getElem_cons_zero])
      refine wpAnyH_take (i := 25) (v := ?_) rfl (by kernel_rfl) (by kernel_rfl) (by kernel_rfl) (fun _ _ _ h => h) (Or.inl ⟨by rfl, ?_⟩) (by assumption) ?_
      rotate_left
      · intro w hSw
        (try dsimp only at hSw)
        go_simp
        (try with_reducible rfl)
      (try simp only [Act.put, List.setIfInBounds_toArray, List.set_cons_zero, List.set_cons_succ, List.getElem_toArray, List.getElem_cons_succ, List.getElem_cons_zero])
      refine wpAnyH_take (i := 26) (v := ?_) rfl (by kernel_rfl) (by kernel_rfl) (by kernel_rfl) (fun _ _ _ h => h) (Or.inl ⟨by rfl, ?_⟩) (by assumption) ?_
      rotate_left
      · intro w hSw
        (try dsimp only at hSw)
        go_simp
        (try with_reducible rfl)
      (try simp only [Act.put, List.setIfInBounds_toArray, List.set_cons_zero, List.set_cons_succ, List.getElem_toArray, List.getElem_cons_succ, List.getElem_cons_zero])
      refine wpAnyH_take (i := 27) (v := ?_) rfl (by kernel_rfl) (by kernel_rfl) (by kernel_rfl) (fun _ _ _ h => h) (Or.inl ⟨by rfl, ?_⟩) (by assumption) ?_
      rotate_left
      · intro w hSw
        (try dsimp only at hSw)
        go_simp
        (try with_reducible rfl)
      (try simp only [Act.put, List.setIfInBounds_toArray, List.set_cons_zero, List.set_cons_succ, List.getElem_toArray, List.getElem_cons_succ, List.getElem_cons_zero])
      refine wpAnyH_ready (rs := [28]) (by kernel_rfl) (by simp) ?_
      refine AllReadyH.cons rfl (fun K hK => ?_) AllReadyH.nil
      go_simp
      (go_at_call 11; refine (lives_any _).mono ?_; rintro e w4 ⟨rfl, hb⟩; replace H := Lib.hid (H.out.kept hb); replace HT := Lib.hid (HT.out.below hb); clear hb)
      refine hK.out _ _ (by exact ⟨e15 _ HT.out, H.out.st.pc, H.out.ins⟩) (fun hHeld => ?_)
      clear hK K
      (try simp only [Act.put, List.setIfInBounds_toArray, List.set_cons_zero, List.set_cons_succ, List.getElem_toArray, List.getElem_cons_succ, List.getElem_cons_zero])
      refine wpAnyH_take (i := 29) (v := ?_) rfl (by kernel_rfl) (by kernel_rfl) (by kernel_rfl) (fun _ _ _ h => h) (Or.inl ⟨by rfl, ?_⟩) (by assumption) ?_
      rotate_left
      · intro w hSw
        (try dsimp only at hSw)
        go_simp
        (try with_reducible rfl)
      (try simp only [Act.put, List.setIfInBounds_toArray, List.set_cons_zero, List.set_cons_succ, List.getElem_toArray, List.getElem_cons_succ, List.getElem_cons_zero])
      refine wpAnyH_take (i := 30) (v := ?_) rfl (by kernel_rfl) (by kernel_rfl) (by kernel_rfl) (fun _ _ _ h => h) (Or.inl ⟨by rfl, ?_⟩) (by assumption) ?_
      rotate_left
      · intro w hSw
        (try dsimp only at hSw)
        go_simp
        (try with_reducible rfl)
      (try simp only [Act.put, List.setIfInBounds_toArray, List.set_cons_zero, List.set_cons_succ, List.getElem_toArray, List.getElem_cons_succ, List.getElem_cons_zero])
      refine wpAnyH_done (by kernel_rfl) ?_ _
      go_wp2
      go_ret
      exact ⟨rfl, H.out.bel⟩
set_option maxHeartbeats 8000000 in
set_option maxRecDepth 100000 in
theorem keeps_f0 (s0 : Cs.St) (rd1 rn1 rm1 ra1 imm1 cond1 : Int) (wide1 : Bool) (a2 : Int) (w : World) (hB : Cs.stepB ⟨23, rd1, rn1, rm1, ra1, imm1, cond1, wide1⟩ = true) (hX : (((Cs.stepS s0 ⟨23, rd1, rn1, rm1, ra1, imm1, cond1, wide1⟩ a2).n == s0.n) = false) ∧ (Cs.stepS s0 ⟨23, rd1, rn1, rm1, ra1, imm1, cond1, wide1⟩ a2).pc = Wd.add (Wd.wrap s0.pc) (Th.size ⟨23, rd1, rn1, rm1, ra1, imm1, cond1, wide1⟩)) :
    Calls Try.prog 7 #[.agg (Cs.cells s0), .agg #[.int .i64 23, .int .i64 rd1, .int .i64 rn1, .int .i64 rm1, .int .i64 ra1, .int .i64 imm1, .int .i64 cond1, .bool wide1], .int .i64 a2] w fun e w' => e = .returned (.bool true) ∧ Below w.heap.size w w' := by
  have H := Lib.hid (Cpu2.new w s0 23 rd1 rn1 rm1 ra1 imm1 cond1 wide1)
  obtain ⟨T, hT⟩ : ∃ T, T = Cs.stepS s0 ⟨23, rd1, rn1, rm1, ra1, imm1, cond1, wide1⟩ a2 := ⟨_, rfl⟩
  have hR : ∀ k : Nat, ¬ (k : Int) = rd1 → ¬ ((k : Int) = ra1 ∧ (23 : Int) = 17) → T.r k = Wd.wrap (s0.r k) := fun k h1 h2 => by rw [hT]; exact Cs.keeps_r s0 a2 hB k h1 h2
  have C0 : Hid (∀ w : World, Calls Try.prog 9 #[.agg (Cs.cells s0), .agg #[.int .i64 23, .int .i64 rd1, .int .i64 rn1, .int .i64 rm1, .int .i64 ra1, .int .i64 imm1, .int .i64 cond1, .bool wide1], .int .i64 a2] w fun e w' => e = .returned (.tuple #[.agg (Cs.cells T), .bool true]) ∧ Below w.heap.size w w') := by
    refine Lib.hid fun w => ?_
    have h := step_any s0 23 rd1 rn1 rm1 ra1 imm1 cond1 a2 wide1 w
    rw [hB, ← hT] at h
    exact h
  rw [← hT] at hX
  have HR := Lib.hid hR
  have HX := Lib.hid hX
  clear hR hX hT hB
  go_enter Try.func7, Try.ntmps7
  go_wp2_with (first | go_skip | ((with_reducible refine wpList_load_st H.out.st ?_ ?_); exact rfl) | (go_at_call 9; refine (C0.out _).mono ?_; rintro e w1 ⟨rfl, hb⟩; replace H := Lib.hid (H.out.kept hb); obtain ⟨i0, i1, i2, i3, i4, i5, i6, i7⟩ := H.out.ins; clear hb) | ((with_reducible refine wpList_store_st (state_alloc_zero _) T ?_ ?_); exact rfl; rw [World.setRow_alloc_new]; replace H := Lib.hid (H.out.alloc (.cells (Cs.cells T) 24)); have HT := Lib.hid (state_alloc w1 T); generalize World.alloc w1 _ = W2 at *; generalize w1.heap.size = bT at *; obtain ⟨i0, i1, i2, i3, i4, i5, i6, i7⟩ := H.out.ins))
  have Hs := H.out
  have HTs := HT.out
  clear i0 i1 i2 i3 i4 i5 i6 i7 H HT
  go_loopw [9] (fun K W => ∃ k : Nat, K = .int .i64 (k : Int) ∧ k ≤ 15 ∧ Cpu2 w w.heap.size W s0 23 rd1 rn1 rm1 ra1 imm1 cond1 wide1 ∧ StateAt W bT T) (fun K _ => 15 - (intOf K).toNat)
  case atStart => exact ⟨0, rfl, Nat.zero_le _, Hs, HTs⟩
  case round =>
    obtain ⟨k, rfl, hk, H0, HT0⟩ := hrel
    have H := Lib.hid H0
    have HT := Lib.hid HT0
    clear H0 HT0 Hs HTs
    by_cases hlt : k < 15
    · have hlt' : (k : Int) < 15 := by omega
      have hk0 : (0 : Int) ≤ (k : Int) := by omega
      have aK : bits .and .i64 (s0.r k) 4294967295 = Wd.wrap (s0.r k) := Wd.and_ones _
      have sk := H.out.st.reg k hlt
      have tk0 := HT.out.reg k hlt
      obtain ⟨i0, i1, i2, i3, i4, i5, i6, i7⟩ := H.out.ins
      cases hrd : ((k : Int) == rd1)
      · cases hra : ((k : Int) == ra1)
        · have tk : wr.cell? ⟨bT, k, none⟩ = some (.int .i64 (Wd.wrap (s0.r k))) := by rw [← HR.out k (by simpa using hrd) (fun h => by simp [h.1] at hra)]; exact tk0
          clear tk0
          go_wp2_with (first | go_skip | ((with_reducible refine wpList_take ?_ ?_); exact rfl; intro _ _))
          go_quiet (fail)
          go_wp2
          exact ⟨⟨k + 1, by go_num, by omega, H.out.kept (below_drewC (Below.refl _ _) nq), HT.out.below (below_drewC (Below.refl _ _) nq)⟩, by simp [intOf]; omega⟩
        · have tk : wr.cell? ⟨bT, k, none⟩ = some (.int .i64 (Wd.wrap (s0.r k))) := by rw [← HR.out k (by simpa using hrd) (fun h => absurd h.2 (by decide))]; exact tk0
          clear tk0
          go_wp2_with (first | go_skip | ((with_reducible refine wpList_take ?_ ?_); exact rfl; intro _ _))
          go_quiet (fail)
          go_wp2
          exact ⟨⟨k + 1, by go_num, by omega, H.out.kept (below_drewC (Below.refl _ _) nq), HT.out.below (below_drewC (Below.refl _ _) nq)⟩, by simp [intOf]; omega⟩
      · go_wp2_with (first | go_skip | ((with_reducible refine wpList_take ?_ ?_); exact rfl; intro _ _))
        go_quiet (fail)
        go_wp2
        exact ⟨⟨k + 1, by go_num, by omega, H.out.kept (below_drewC (Below.refl _ _) nq), HT.out.below (below_drewC (Below.refl _ _) nq)⟩, by simp [intOf]; omega⟩
    · obtain rfl : k = 15 := by omega
      have hge : ¬ (15 : Int) < 15 := by omega
      have hand : ∀ x : Int, bits .and .i64 (IntKind.i64.wrap (s0.pc + x)) 4294967295 = Wd.add (Wd.wrap s0.pc) x := fun x => by rw [Wd.and_ones, IntKind.wrap_i64]; unfold Wd.add Wd.wrap; omega
      obtain ⟨i0, i1, i2, i3, i4, i5, i6, i7⟩ := H.out.ins
      have sn := H.out.st.n
      have tn := HT.out.n
      have sz := H.out.st.z
      have tz := HT.out.z
      have sc := H.out.st.c
      have tc := HT.out.c
      have sv := H.out.st.v
      have tv := HT.out.v
      have x0 := HX.out.1
      have xp := HX.out.2
      go_wp2_with (first | go_skip | ((with_reducible refine wpList_take ?_ ?_); exact rfl; intro _ _))
      replace H := Lib.hid H.out.drew
      replace HT : Hid (StateAt wr.drew bT T) := Lib.hid (HT.out.below (Below.refl _ _).drew)
      clear i0 i1 i2 i3 i4 i5 i6 i7 sn sz sc sv tn tz tc tv
      have e15 : ∀ W, StateAt W bT T → W.cell? ⟨bT, 15, none⟩ = some (.int .i64 (Wd.add (Wd.wrap s0.pc) (Th.size ⟨23, rd1, rn1, rm1, ra1, imm1, cond1, wide1⟩))) := fun W h => by rw [← HX.out.2]; exact h.pc
      clear xp
      refine wp_region_held_drew (S := fun wx => wx.cell? ⟨bT, 15, none⟩ = some (.int .i64 (Wd.add (Wd.wrap s0.pc) (Th.size ⟨23, rd1, rn1, rm1, ra1, imm1, cond1, wide1⟩))) ∧ wx.cell? ⟨w.heap.size, 15, none⟩ = some (.int .i64 s0.pc) ∧ InsAt wx (w.heap.size + 1) 23 rd1 rn1 rm1 ra1 imm1 cond1 wide1) (by kernel_rfl) (⟨e15 _ HT.out, H.out.st.pc, H.out.ins⟩) (fun hHeld => ?_)
      refine wpAnyH_take (i := 0) (v := ?_) rfl (by kernel_rfl) (by kernel_rfl) (by kernel_rfl) (fun _ _ _ h => h) (Or.inl ⟨by rfl, ?_⟩) (by assumption) ?_
      rotate_left
      · intro w hSw
        (try dsimp only at hSw)
        go_simp
        (try with_reducible rfl)
      (try simp only [Act.put, List.setIfInBounds_toArray, List.set_cons_zero, List.set_cons_succ, List.getElem_toArray, List.getElem_cons_succ, List.getElem_cons_zero])
      refine wpAnyH_take (i := 1) (v := ?_) rfl (by kernel_rfl) (by kernel_rfl) (by kernel_rfl) (fun _ _ _ h => h) (Or.inl ⟨by rfl, ?_⟩) (by assumption) ?_
      rotate_left
      · intro w hSw
        (try dsimp only at hSw)
        go_simp
        (try with_reducible rfl)
      (try simp only [Act.put, List.setIfInBounds_toArray, List.set_cons_zero, List.set_cons_succ, List.getElem_toArray, List.getElem_cons_succ, List.getElem_cons_zero])
      refine wpAnyH_take (i := 2) (v := ?_) rfl (by kernel_rfl) (by kernel_rfl) (by kernel_rfl) (fun _ _ _ h => h) (Or.inl ⟨by rfl, ?_⟩) (by assumption) ?_
      rotate_left
      · intro w hSw
        (try dsimp only at hSw)
        go_simp
        (try with_reducible rfl)
      (try simp only [Act.put, List.setIfInBounds_toArray, List.set_cons_zero, List.set_cons_succ, List.getElem_toArray, List.getElem_cons_succ, List.getElem_cons_zero])
      refine wpAnyH_take (i := 3) (v := ?_) rfl (by kernel_rfl) (by kernel_rfl) (by kernel_rfl) (fun _ _ _ h => h) (Or.inl ⟨by rfl, ?_⟩) (by assumption) ?_
      rotate_left
      · intro w hSw
        (try dsimp only at hSw)
        go_simp
        (try with_reducible rfl)
      (try simp only [Act.put, List.setIfInBounds_toArray, List.set_cons_zero, List.set_cons_succ, List.getElem_toArray, List.getElem_cons_succ, List.getElem_cons_zero])
      refine wpAnyH_take (i := 4) (v := ?_) rfl (by kernel_rfl) (by kernel_rfl) (by kernel_rfl) (fun _ _ _ h => h) (Or.inl ⟨by rfl, ?_⟩) (by assumption) ?_
      rotate_left
      · intro w hSw
        (try dsimp only at hSw)
        go_simp
        (try with_reducible rfl)
      (try simp only [Act.put, List.setIfInBounds_toArray, List.set_cons_zero, List.set_cons_succ, List.getElem_toArray, List.getElem_cons_succ, List.getElem_cons_zero])
      refine wpAnyH_take (i := 5) (v := ?_) rfl (by kernel_rfl) (by kernel_rfl) (by kernel_rfl) (fun _ _ _ h => h) (Or.inl ⟨by rfl, ?_⟩) (by assumption) ?_
      rotate_left
      · intro w hSw
        (try dsimp only at hSw)
        go_simp
        (try with_reducible rfl)
      (try simp only [Act.put, List.setIfInBounds_toArray, List.set_cons_zero, List.set_cons_succ, List.getElem_toArray, List.getElem_cons_succ, List.getElem_cons_zero])
      refine wpAnyH_take (i := 6) (v := ?_) rfl (by kernel_rfl) (by kernel_rfl) (by kernel_rfl) (fun _ _ _ h => h) (Or.inl ⟨by rfl, ?_⟩) (by assumption) ?_
      rotate_left
      · intro w hSw
        (try dsimp only at hSw)
        go_simp
        (try with_reducible rfl)
      (try simp only [Act.put, List.setIfInBounds_toArray, List.set_cons_zero, List.set_cons_succ, List.getElem_toArray, List.getElem_cons_succ, List.getElem_cons_zero])
      refine wpAnyH_take (i := 7) (v := ?_) rfl (by kernel_rfl) (by kernel_rfl) (by kernel_rfl) (fun _ _ _ h => h) (Or.inl ⟨by rfl, ?_⟩) (by assumption) ?_
      rotate_left
      · intro w hSw
        (try dsimp only at hSw)
        go_simp
        (try with_reducible rfl)
      (try simp only [Act.put, List.setIfInBounds_toArray, List.set_cons_zero, List.set_cons_succ, List.getElem_toArray, List.getElem_cons_succ, List.getElem_cons_zero])
      refine wpAnyH_take (i := 8) (v := ?_) rfl (by kernel_rfl) (by kernel_rfl) (by kernel_rfl) (fun _ _ _ h => h) (Or.inl ⟨by rfl, ?_⟩) (by assumption) ?_
      rotate_left
      · intro w hSw
        (try dsimp only at hSw)
        go_simp
        (try with_reducible rfl)
      (try simp only [Act.put, List.setIfInBounds_toArray, List.set_cons_zero, List.set_cons_succ, List.getElem_toArray, List.getElem_cons_succ, List.getElem_cons_zero])
      refine wpAnyH_take (i := 9) (v := ?_) rfl (by kernel_rfl) (by kernel_rfl) (by kernel_rfl) (fun _ _ _ h => h) (Or.inl ⟨by rfl, ?_⟩) (by assumption) ?_
      rotate_left
      · intro w hSw
        (try dsimp only at hSw)
        go_simp
        (try with_reducible rfl)
      (try simp only [Act.put, List.setIfInBounds_toArray, List.set_cons_zero, List.set_cons_succ, List.getElem_toArray, List.getElem_cons_succ, List.getElem_cons_zero])
      refine wpAnyH_take (i := 10) (v := ?_) rfl (by kernel_rfl) (by kernel_rfl) (by kernel_rfl) (fun _ _ _ h => h) (Or.inl ⟨by rfl, ?_⟩) (by assumption) ?_
      rotate_left
      · intro w hSw
        (try dsimp only at hSw)
        go_simp
        (try with_reducible rfl)
      (try simp only [Act.put, List.setIfInBounds_toArray, List.set_cons_zero, List.set_cons_succ, List.getElem_toArray, List.getElem_cons_succ, List.getElem_cons_zero])
      refine wpAnyH_take (i := 11) (v := ?_) rfl (by kernel_rfl) (by kernel_rfl) (by kernel_rfl) (fun _ _ _ h => h) (Or.inl ⟨by rfl, ?_⟩) (by assumption) ?_
      rotate_left
      · intro w hSw
        (try dsimp only at hSw)
        go_simp
        (try with_reducible rfl)
      (try simp only [Act.put, List.setIfInBounds_toArray, List.set_cons_zero, List.set_cons_succ, List.getElem_toArray, List.getElem_cons_succ, List.getElem_cons_zero])
      refine wpAnyH_ready (rs := [12]) (by kernel_rfl) (by simp) ?_
      refine AllReadyH.cons rfl (fun K hK => ?_) AllReadyH.nil
      go_simp
      (go_at_call 20; refine (size_any _ _ _ _ _ _ _ _ _).mono ?_; rintro e w3 ⟨rfl, hb⟩; replace H := Lib.hid (H.out.kept hb); replace HT := Lib.hid (HT.out.below hb); clear hb)
      refine hK.out _ _ (by exact ⟨e15 _ HT.out, H.out.st.pc, H.out.ins⟩) (fun hHeld => ?_)
      clear hK K
      (try simp only [Act.put, List.setIfInBounds_toArray, List.set_cons_zero, List.set_cons_succ, List.getElem_toArray, List.getElem_cons_succ, List.getElem_cons_zero])
      refine wpAnyH_take (i := 13) (v := ?_) rfl (by kernel_rfl) (by kernel_rfl) (by kernel_rfl) (fun _ _ _ h => h) (Or.inl ⟨by rfl, ?_⟩) (by assumption) ?_
      rotate_left
      · intro w hSw
        (try dsimp only at hSw)
        go_simp
        (try with_reducible rfl)
      (try simp only [Act.put, List.setIfInBounds_toArray, List.set_cons_zero, List.set_cons_succ, List.getElem_toArray, List.getElem_cons_succ, List.getElem_cons_zero])
      refine wpAnyH_take (i := 14) (v := ?_) rfl (by kernel_rfl) (by kernel_rfl) (by kernel_rfl) (fun _ _ _ h => h) (Or.inl ⟨by rfl, ?_⟩) (by assumption) ?_
      rotate_left
      · intro w hSw
        (try dsimp only at hSw)
        go_simp
        (try with_reducible rfl)
      (try simp only [Act.put, List.setIfInBounds_toArray, List.set_cons_zero, List.set_cons_succ, List.getElem_toArray, List.getElem_cons_succ, List.getElem_cons_zero])
      refine wpAnyH_take (i := 15) (v := ?_) rfl (by kernel_rfl) (by kernel_rfl) (by kernel_rfl) (fun _ _ _ h => h) (Or.inl ⟨by rfl, ?_⟩) (by assumption) ?_
      rotate_left
      · intro w hSw
        (try dsimp only at hSw)
        go_simp
        (try with_reducible rfl)
      (try simp only [Act.put, List.setIfInBounds_toArray, List.set_cons_zero, List.set_cons_succ, List.getElem_toArray, List.getElem_cons_succ, List.getElem_cons_zero])
      refine wpAnyH_take (i := 16) (v := ?_) rfl (by kernel_rfl) (by kernel_rfl) (by kernel_rfl) (fun _ _ _ h => h) (Or.inl ⟨by rfl, ?_⟩) (by assumption) ?_
      rotate_left
      · intro w hSw
        (try dsimp only at hSw)
        go_simp
        (try with_reducible rfl)
      (try simp only [Act.put, List.setIfInBounds_toArray, List.set_cons_zero, List.set_cons_succ, List.getElem_toArray, List.getElem_cons_succ, List.getElem_cons_zero])
      refine wpAnyH_take (i := 17) (v := undef) rfl (by kernel_rfl) (by kernel_rfl) (by kernel_rfl) (fun _ _ _ h => h) (Or.inr ⟨by kernel_rfl, rfl⟩) (by assumption) ?_
      (try simp only [Act.put, List.setIfInBounds_toArray, List.set_cons_zero, List.set_cons_succ, List.getElem_toArray, List.getElem_cons_succ, List.getElem_cons_zero])
      refine wpAnyH_take (i := 18) (v := undef) rfl (by kernel_rfl) (by kernel_rfl) (by kernel_rfl) (fun _ _ _ h => h) (Or.inr ⟨by kernel_rfl, rfl⟩) (by assumption) ?_
      (try simp only [Act.put, List.setIfInBounds_toArray, List.set_cons_zero, List.set_cons_succ, List.getElem_toArray, List.getElem_cons_succ, List.getElem_cons_zero])
      refine wpAnyH_take (i := 19) (v := undef) rfl (by kernel_rfl) (by kernel_rfl) (by kernel_rfl) (fun _ _ _ h => h) (Or.inr ⟨by kernel_rfl, rfl⟩) (by assumption) ?_
      (try simp only [Act.put, List.setIfInBounds_toArray, List.set_cons_zero, List.set_cons_succ, List.getElem_toArray, List.getElem_cons_succ, List.getElem_cons_zero])
      refine wpAnyH_take (i := 20) (v := ?_) rfl (by kernel_rfl) (by kernel_rfl) (by kernel_rfl) (fun _ _ _ h => h) (Or.inl ⟨by rfl, ?_⟩) (by assumption) ?_
      rotate_left
      · intro w hSw
        (try dsimp only at hSw)
        go_simp
        (try with_reducible rfl)
      (try simp only [Act.put, List.setIfInBounds_toArray, List.set_cons_zero, List.set_cons_succ, List.getElem_toArray, List.getElem_cons_succ, List.getElem_cons_zero])
      refine wpAnyH_take (i := 21) (v := ?_) rfl (by kernel_rfl) (by kernel_rfl) (by kernel_rfl) (fun _ _ _ h => h) (Or.inl ⟨by rfl, ?_⟩) (by assumption) ?_
      rotate_left
      · intro w hSw
        (try dsimp only at hSw)
        go_simp
        (try with_reducible rfl)
      (try simp only [Act.put, List.setIfInBounds_toArray, List.set_cons_zero, List.set_cons_succ, List.getElem_toArray, List.getElem_cons_succ, List.getElem_cons_zero])
      refine wpAnyH_take (i := 22) (v := undef) rfl (by kernel_rfl) (by kernel_rfl) (by kernel_rfl) (fun _ _ _ h => h) (Or.inr ⟨by kernel_rfl, rfl⟩) (by assumption) ?_
      (try simp only [Act.put, List.setIfInBounds_toArray, List.set_cons_zero, List.set_cons_succ, List.getElem_toArray, List.getElem_cons_succ, List.getElem_cons_zero])
      refine wpAnyH_take (i := 23) (v := undef) rfl (by kernel_rfl) (by kernel_rfl) (by kernel_rfl) (fun _ _ _ h => h) (Or.inr ⟨by kernel_rfl, rfl⟩) (by assumption) ?_
      (try simp only [Act.put, List.setIfInBounds_toArray, List.set_cons_zero, List.set_cons_succ, List.getElem_toArray, List.getElem_cons_succ, List.getElem_cons_zero])
      refine wpAnyH_take (i := 24) (v := undef) rfl (by kernel_rfl) (by kernel_rfl) (by kernel_rfl) (fun _ _ _ h => h) (Or.inr ⟨by kernel_rfl, rfl⟩) (by assumption) ?_
      (try simp only [Act.put, List.setIfInBounds_toArray, List.set_cons_zero, List.set_cons_succ, List.getElem_toArray, List.getElem_cons_succ, List.getElem_cons_zero])
      refine wpAnyH_take (i := 25) (v := ?_) rfl (by kernel_rfl) (by kernel_rfl) (by kernel_rfl) (fun _ _ _ h => h) (Or.inl ⟨by rfl, ?_⟩) (by assumption) ?_
      rotate_left
      · intro w hSw
        (try dsimp only at hSw)
        go_simp
        (try with_reducible rfl)
      (try simp only [Act.put, List.setIfInBounds_toArray, List.set_cons_zero, List.set_cons_succ, List.getElem_toArray, List.getElem_cons_succ, List.getElem_cons_zero])
      refine wpAnyH_take (i := 26) (v := ?_) rfl (by kernel_rfl) (by kernel_rfl) (by kernel_rfl) (fun _ _ _ h => h) (Or.inl ⟨by rfl, ?_⟩) (by assumption) ?_
      rotate_left
      · intro w hSw
        (try dsimp only at hSw)
        go_simp
        (try with_reducible rfl)
      (try simp only [Act.put, List.setIfInBounds_toArray, List.set_cons_zero, List.set_cons_succ, List.getElem_toArray, List.getElem_cons_succ, List.getElem_cons_zero])
      refine wpAnyH_take (i := 27) (v := ?_) rfl (by kernel_rfl) (by kernel_rfl) (by kernel_rfl) (fun _ _ _ h => h) (Or.inl ⟨by rfl, ?_⟩) (by assumption) ?_
      rotate_left
      · intro w hSw
        (try dsimp only at hSw)
        go_simp
        (try with_reducible rfl)
      (try simp only [Act.put, List.setIfInBounds_toArray, List.set_cons_zero, List.set_cons_succ, List.getElem_toArray, List.getElem_cons_succ, List.getElem_cons_zero])
      refine wpAnyH_ready (rs := [28]) (by kernel_rfl) (by simp) ?_
      refine AllReadyH.cons rfl (fun K hK => ?_) AllReadyH.nil
      go_simp
      (go_at_call 11; refine (lives_any _).mono ?_; rintro e w4 ⟨rfl, hb⟩; replace H := Lib.hid (H.out.kept hb); replace HT := Lib.hid (HT.out.below hb); clear hb)
      refine hK.out _ _ (by exact ⟨e15 _ HT.out, H.out.st.pc, H.out.ins⟩) (fun hHeld => ?_)
      clear hK K
      (try simp only [Act.put, List.setIfInBounds_toArray, List.set_cons_zero, List.set_cons_succ, List.getElem_toArray, List.getElem_cons_succ, List.getElem_cons_zero])
      refine wpAnyH_take (i := 29) (v := ?_) rfl (by kernel_rfl) (by kernel_rfl) (by kernel_rfl) (fun _ _ _ h => h) (Or.inl ⟨by rfl, ?_⟩) (by assumption) ?_
      rotate_left
      · intro w hSw
        (try dsimp only at hSw)
        go_simp
        (try with_reducible rfl)
      (try simp only [Act.put, List.setIfInBounds_toArray, List.set_cons_zero, List.set_cons_succ, List.getElem_toArray, List.getElem_cons_succ, List.getElem_cons_zero])
      refine wpAnyH_take (i := 30) (v := ?_) rfl (by kernel_rfl) (by kernel_rfl) (by kernel_rfl) (fun _ _ _ h => h) (Or.inl ⟨by rfl, ?_⟩) (by assumption) ?_
      rotate_left
      · intro w hSw
        (try dsimp only at hSw)
        go_simp
        (try with_reducible rfl)
      (try simp only [Act.put, List.setIfInBounds_toArray, List.set_cons_zero, List.set_cons_succ, List.getElem_toArray, List.getElem_cons_succ, List.getElem_cons_zero])
      refine wpAnyH_done (by kernel_rfl) ?_ _
      go_wp2
      go_ret
      exact ⟨rfl, H.out.bel⟩
set_option maxHeartbeats 8000000 in
set_option maxRecDepth 100000 in
theorem keeps_f1 (s0 : Cs.St) (rd1 rn1 rm1 ra1 imm1 cond1 : Int) (wide1 : Bool) (a2 : Int) (w : World) (hB : Cs.stepB ⟨23, rd1, rn1, rm1, ra1, imm1, cond1, wide1⟩ = true) (hX : (((Cs.stepS s0 ⟨23, rd1, rn1, rm1, ra1, imm1, cond1, wide1⟩ a2).n == s0.n) = true ∧ ((Cs.stepS s0 ⟨23, rd1, rn1, rm1, ra1, imm1, cond1, wide1⟩ a2).z == s0.z) = false) ∧ (Cs.stepS s0 ⟨23, rd1, rn1, rm1, ra1, imm1, cond1, wide1⟩ a2).pc = Wd.add (Wd.wrap s0.pc) (Th.size ⟨23, rd1, rn1, rm1, ra1, imm1, cond1, wide1⟩)) :
    Calls Try.prog 7 #[.agg (Cs.cells s0), .agg #[.int .i64 23, .int .i64 rd1, .int .i64 rn1, .int .i64 rm1, .int .i64 ra1, .int .i64 imm1, .int .i64 cond1, .bool wide1], .int .i64 a2] w fun e w' => e = .returned (.bool true) ∧ Below w.heap.size w w' := by
  have H := Lib.hid (Cpu2.new w s0 23 rd1 rn1 rm1 ra1 imm1 cond1 wide1)
  obtain ⟨T, hT⟩ : ∃ T, T = Cs.stepS s0 ⟨23, rd1, rn1, rm1, ra1, imm1, cond1, wide1⟩ a2 := ⟨_, rfl⟩
  have hR : ∀ k : Nat, ¬ (k : Int) = rd1 → ¬ ((k : Int) = ra1 ∧ (23 : Int) = 17) → T.r k = Wd.wrap (s0.r k) := fun k h1 h2 => by rw [hT]; exact Cs.keeps_r s0 a2 hB k h1 h2
  have C0 : Hid (∀ w : World, Calls Try.prog 9 #[.agg (Cs.cells s0), .agg #[.int .i64 23, .int .i64 rd1, .int .i64 rn1, .int .i64 rm1, .int .i64 ra1, .int .i64 imm1, .int .i64 cond1, .bool wide1], .int .i64 a2] w fun e w' => e = .returned (.tuple #[.agg (Cs.cells T), .bool true]) ∧ Below w.heap.size w w') := by
    refine Lib.hid fun w => ?_
    have h := step_any s0 23 rd1 rn1 rm1 ra1 imm1 cond1 a2 wide1 w
    rw [hB, ← hT] at h
    exact h
  rw [← hT] at hX
  have HR := Lib.hid hR
  have HX := Lib.hid hX
  clear hR hX hT hB
  go_enter Try.func7, Try.ntmps7
  go_wp2_with (first | go_skip | ((with_reducible refine wpList_load_st H.out.st ?_ ?_); exact rfl) | (go_at_call 9; refine (C0.out _).mono ?_; rintro e w1 ⟨rfl, hb⟩; replace H := Lib.hid (H.out.kept hb); obtain ⟨i0, i1, i2, i3, i4, i5, i6, i7⟩ := H.out.ins; clear hb) | ((with_reducible refine wpList_store_st (state_alloc_zero _) T ?_ ?_); exact rfl; rw [World.setRow_alloc_new]; replace H := Lib.hid (H.out.alloc (.cells (Cs.cells T) 24)); have HT := Lib.hid (state_alloc w1 T); generalize World.alloc w1 _ = W2 at *; generalize w1.heap.size = bT at *; obtain ⟨i0, i1, i2, i3, i4, i5, i6, i7⟩ := H.out.ins))
  have Hs := H.out
  have HTs := HT.out
  clear i0 i1 i2 i3 i4 i5 i6 i7 H HT
  go_loopw [9] (fun K W => ∃ k : Nat, K = .int .i64 (k : Int) ∧ k ≤ 15 ∧ Cpu2 w w.heap.size W s0 23 rd1 rn1 rm1 ra1 imm1 cond1 wide1 ∧ StateAt W bT T) (fun K _ => 15 - (intOf K).toNat)
  case atStart => exact ⟨0, rfl, Nat.zero_le _, Hs, HTs⟩
  case round =>
    obtain ⟨k, rfl, hk, H0, HT0⟩ := hrel
    have H := Lib.hid H0
    have HT := Lib.hid HT0
    clear H0 HT0 Hs HTs
    by_cases hlt : k < 15
    · have hlt' : (k : Int) < 15 := by omega
      have hk0 : (0 : Int) ≤ (k : Int) := by omega
      have aK : bits .and .i64 (s0.r k) 4294967295 = Wd.wrap (s0.r k) := Wd.and_ones _
      have sk := H.out.st.reg k hlt
      have tk0 := HT.out.reg k hlt
      obtain ⟨i0, i1, i2, i3, i4, i5, i6, i7⟩ := H.out.ins
      cases hrd : ((k : Int) == rd1)
      · cases hra : ((k : Int) == ra1)
        · have tk : wr.cell? ⟨bT, k, none⟩ = some (.int .i64 (Wd.wrap (s0.r k))) := by rw [← HR.out k (by simpa using hrd) (fun h => by simp [h.1] at hra)]; exact tk0
          clear tk0
          go_wp2_with (first | go_skip | ((with_reducible refine wpList_take ?_ ?_); exact rfl; intro _ _))
          go_quiet (fail)
          go_wp2
          exact ⟨⟨k + 1, by go_num, by omega, H.out.kept (below_drewC (Below.refl _ _) nq), HT.out.below (below_drewC (Below.refl _ _) nq)⟩, by simp [intOf]; omega⟩
        · have tk : wr.cell? ⟨bT, k, none⟩ = some (.int .i64 (Wd.wrap (s0.r k))) := by rw [← HR.out k (by simpa using hrd) (fun h => absurd h.2 (by decide))]; exact tk0
          clear tk0
          go_wp2_with (first | go_skip | ((with_reducible refine wpList_take ?_ ?_); exact rfl; intro _ _))
          go_quiet (fail)
          go_wp2
          exact ⟨⟨k + 1, by go_num, by omega, H.out.kept (below_drewC (Below.refl _ _) nq), HT.out.below (below_drewC (Below.refl _ _) nq)⟩, by simp [intOf]; omega⟩
      · go_wp2_with (first | go_skip | ((with_reducible refine wpList_take ?_ ?_); exact rfl; intro _ _))
        go_quiet (fail)
        go_wp2
        exact ⟨⟨k + 1, by go_num, by omega, H.out.kept (below_drewC (Below.refl _ _) nq), HT.out.below (below_drewC (Below.refl _ _) nq)⟩, by simp [intOf]; omega⟩
    · obtain rfl : k = 15 := by omega
      have hge : ¬ (15 : Int) < 15 := by omega
      have hand : ∀ x : Int, bits .and .i64 (IntKind.i64.wrap (s0.pc + x)) 4294967295 = Wd.add (Wd.wrap s0.pc) x := fun x => by rw [Wd.and_ones, IntKind.wrap_i64]; unfold Wd.add Wd.wrap; omega
      obtain ⟨i0, i1, i2, i3, i4, i5, i6, i7⟩ := H.out.ins
      have sn := H.out.st.n
      have tn := HT.out.n
      have sz := H.out.st.z
      have tz := HT.out.z
      have sc := H.out.st.c
      have tc := HT.out.c
      have sv := H.out.st.v
      have tv := HT.out.v
      obtain ⟨x0, x1⟩ := HX.out.1
      have xp := HX.out.2
      go_wp2_with (first | go_skip | ((with_reducible refine wpList_take ?_ ?_); exact rfl; intro _ _))
      replace H := Lib.hid H.out.drew
      replace HT : Hid (StateAt wr.drew bT T) := Lib.hid (HT.out.below (Below.refl _ _).drew)
      clear i0 i1 i2 i3 i4 i5 i6 i7 sn sz sc sv tn tz tc tv
      have e15 : ∀ W, StateAt W bT T → W.cell? ⟨bT, 15, none⟩ = some (.int .i64 (Wd.add (Wd.wrap s0.pc) (Th.size ⟨23, rd1, rn1, rm1, ra1, imm1, cond1, wide1⟩))) := fun W h => by rw [← HX.out.2]; exact h.pc
      clear xp
      refine wp_region_held_drew (S := fun wx => wx.cell? ⟨bT, 15, none⟩ = some (.int .i64 (Wd.add (Wd.wrap s0.pc) (Th.size ⟨23, rd1, rn1, rm1, ra1, imm1, cond1, wide1⟩))) ∧ wx.cell? ⟨w.heap.size, 15, none⟩ = some (.int .i64 s0.pc) ∧ InsAt wx (w.heap.size + 1) 23 rd1 rn1 rm1 ra1 imm1 cond1 wide1) (by kernel_rfl) (⟨e15 _ HT.out, H.out.st.pc, H.out.ins⟩) (fun hHeld => ?_)
      refine wpAnyH_take (i := 0) (v := ?_) rfl (by kernel_rfl) (by kernel_rfl) (by kernel_rfl) (fun _ _ _ h => h) (Or.inl ⟨by rfl, ?_⟩) (by assumption) ?_
      rotate_left
      · intro w hSw
        (try dsimp only at hSw)
        go_simp
        (try with_reducible rfl)
      (try simp only [Act.put, List.setIfInBounds_toArray, List.set_cons_zero, List.set_cons_succ, List.getElem_toArray, List.getElem_cons_succ, List.getElem_cons_zero])
      refine wpAnyH_take (i := 1) (v := ?_) rfl (by kernel_rfl) (by kernel_rfl) (by kernel_rfl) (fun _ _ _ h => h) (Or.inl ⟨by rfl, ?_⟩) (by assumption) ?_
      rotate_left
      · intro w hSw
        (try dsimp only at hSw)
        go_simp
        (try with_reducible rfl)
      (try simp only [Act.put, List.setIfInBounds_toArray, List.set_cons_zero, List.set_cons_succ, List.getElem_toArray, List.getElem_cons_succ, List.getElem_cons_zero])
      refine wpAnyH_take (i := 2) (v := ?_) rfl (by kernel_rfl) (by kernel_rfl) (by kernel_rfl) (fun _ _ _ h => h) (Or.inl ⟨by rfl, ?_⟩) (by assumption) ?_
      rotate_left
      · intro w hSw
        (try dsimp only at hSw)
        go_simp
        (try with_reducible rfl)
      (try simp only [Act.put, List.setIfInBounds_toArray, List.set_cons_zero, List.set_cons_succ, List.getElem_toArray, List.getElem_cons_succ, List.getElem_cons_zero])
      refine wpAnyH_take (i := 3) (v := ?_) rfl (by kernel_rfl) (by kernel_rfl) (by kernel_rfl) (fun _ _ _ h => h) (Or.inl ⟨by rfl, ?_⟩) (by assumption) ?_
      rotate_left
      · intro w hSw
        (try dsimp only at hSw)
        go_simp
        (try with_reducible rfl)
      (try simp only [Act.put, List.setIfInBounds_toArray, List.set_cons_zero, List.set_cons_succ, List.getElem_toArray, List.getElem_cons_succ, List.getElem_cons_zero])
      refine wpAnyH_take (i := 4) (v := ?_) rfl (by kernel_rfl) (by kernel_rfl) (by kernel_rfl) (fun _ _ _ h => h) (Or.inl ⟨by rfl, ?_⟩) (by assumption) ?_
      rotate_left
      · intro w hSw
        (try dsimp only at hSw)
        go_simp
        (try with_reducible rfl)
      (try simp only [Act.put, List.setIfInBounds_toArray, List.set_cons_zero, List.set_cons_succ, List.getElem_toArray, List.getElem_cons_succ, List.getElem_cons_zero])
      refine wpAnyH_take (i := 5) (v := ?_) rfl (by kernel_rfl) (by kernel_rfl) (by kernel_rfl) (fun _ _ _ h => h) (Or.inl ⟨by rfl, ?_⟩) (by assumption) ?_
      rotate_left
      · intro w hSw
        (try dsimp only at hSw)
        go_simp
        (try with_reducible rfl)
      (try simp only [Act.put, List.setIfInBounds_toArray, List.set_cons_zero, List.set_cons_succ, List.getElem_toArray, List.getElem_cons_succ, List.getElem_cons_zero])
      refine wpAnyH_take (i := 6) (v := ?_) rfl (by kernel_rfl) (by kernel_rfl) (by kernel_rfl) (fun _ _ _ h => h) (Or.inl ⟨by rfl, ?_⟩) (by assumption) ?_
      rotate_left
      · intro w hSw
        (try dsimp only at hSw)
        go_simp
        (try with_reducible rfl)
      (try simp only [Act.put, List.setIfInBounds_toArray, List.set_cons_zero, List.set_cons_succ, List.getElem_toArray, List.getElem_cons_succ, List.getElem_cons_zero])
      refine wpAnyH_take (i := 7) (v := ?_) rfl (by kernel_rfl) (by kernel_rfl) (by kernel_rfl) (fun _ _ _ h => h) (Or.inl ⟨by rfl, ?_⟩) (by assumption) ?_
      rotate_left
      · intro w hSw
        (try dsimp only at hSw)
        go_simp
        (try with_reducible rfl)
      (try simp only [Act.put, List.setIfInBounds_toArray, List.set_cons_zero, List.set_cons_succ, List.getElem_toArray, List.getElem_cons_succ, List.getElem_cons_zero])
      refine wpAnyH_take (i := 8) (v := ?_) rfl (by kernel_rfl) (by kernel_rfl) (by kernel_rfl) (fun _ _ _ h => h) (Or.inl ⟨by rfl, ?_⟩) (by assumption) ?_
      rotate_left
      · intro w hSw
        (try dsimp only at hSw)
        go_simp
        (try with_reducible rfl)
      (try simp only [Act.put, List.setIfInBounds_toArray, List.set_cons_zero, List.set_cons_succ, List.getElem_toArray, List.getElem_cons_succ, List.getElem_cons_zero])
      refine wpAnyH_take (i := 9) (v := ?_) rfl (by kernel_rfl) (by kernel_rfl) (by kernel_rfl) (fun _ _ _ h => h) (Or.inl ⟨by rfl, ?_⟩) (by assumption) ?_
      rotate_left
      · intro w hSw
        (try dsimp only at hSw)
        go_simp
        (try with_reducible rfl)
      (try simp only [Act.put, List.setIfInBounds_toArray, List.set_cons_zero, List.set_cons_succ, List.getElem_toArray, List.getElem_cons_succ, List.getElem_cons_zero])
      refine wpAnyH_take (i := 10) (v := ?_) rfl (by kernel_rfl) (by kernel_rfl) (by kernel_rfl) (fun _ _ _ h => h) (Or.inl ⟨by rfl, ?_⟩) (by assumption) ?_
      rotate_left
      · intro w hSw
        (try dsimp only at hSw)
        go_simp
        (try with_reducible rfl)
      (try simp only [Act.put, List.setIfInBounds_toArray, List.set_cons_zero, List.set_cons_succ, List.getElem_toArray, List.getElem_cons_succ, List.getElem_cons_zero])
      refine wpAnyH_take (i := 11) (v := ?_) rfl (by kernel_rfl) (by kernel_rfl) (by kernel_rfl) (fun _ _ _ h => h) (Or.inl ⟨by rfl, ?_⟩) (by assumption) ?_
      rotate_left
      · intro w hSw
        (try dsimp only at hSw)
        go_simp
        (try with_reducible rfl)
      (try simp only [Act.put, List.setIfInBounds_toArray, List.set_cons_zero, List.set_cons_succ, List.getElem_toArray, List.getElem_cons_succ, List.getElem_cons_zero])
      refine wpAnyH_ready (rs := [12]) (by kernel_rfl) (by simp) ?_
      refine AllReadyH.cons rfl (fun K hK => ?_) AllReadyH.nil
      go_simp
      (go_at_call 20; refine (size_any _ _ _ _ _ _ _ _ _).mono ?_; rintro e w3 ⟨rfl, hb⟩; replace H := Lib.hid (H.out.kept hb); replace HT := Lib.hid (HT.out.below hb); clear hb)
      refine hK.out _ _ (by exact ⟨e15 _ HT.out, H.out.st.pc, H.out.ins⟩) (fun hHeld => ?_)
      clear hK K
      (try simp only [Act.put, List.setIfInBounds_toArray, List.set_cons_zero, List.set_cons_succ, List.getElem_toArray, List.getElem_cons_succ, List.getElem_cons_zero])
      refine wpAnyH_take (i := 13) (v := ?_) rfl (by kernel_rfl) (by kernel_rfl) (by kernel_rfl) (fun _ _ _ h => h) (Or.inl ⟨by rfl, ?_⟩) (by assumption) ?_
      rotate_left
      · intro w hSw
        (try dsimp only at hSw)
        go_simp
        (try with_reducible rfl)
      (try simp only [Act.put, List.setIfInBounds_toArray, List.set_cons_zero, List.set_cons_succ, List.getElem_toArray, List.getElem_cons_succ, List.getElem_cons_zero])
      refine wpAnyH_take (i := 14) (v := ?_) rfl (by kernel_rfl) (by kernel_rfl) (by kernel_rfl) (fun _ _ _ h => h) (Or.inl ⟨by rfl, ?_⟩) (by assumption) ?_
      rotate_left
      · intro w hSw
        (try dsimp only at hSw)
        go_simp
        (try with_reducible rfl)
      (try simp only [Act.put, List.setIfInBounds_toArray, List.set_cons_zero, List.set_cons_succ, List.getElem_toArray, List.getElem_cons_succ, List.getElem_cons_zero])
      refine wpAnyH_take (i := 15) (v := ?_) rfl (by kernel_rfl) (by kernel_rfl) (by kernel_rfl) (fun _ _ _ h => h) (Or.inl ⟨by rfl, ?_⟩) (by assumption) ?_
      rotate_left
      · intro w hSw
        (try dsimp only at hSw)
        go_simp
        (try with_reducible rfl)
      (try simp only [Act.put, List.setIfInBounds_toArray, List.set_cons_zero, List.set_cons_succ, List.getElem_toArray, List.getElem_cons_succ, List.getElem_cons_zero])
      refine wpAnyH_take (i := 16) (v := ?_) rfl (by kernel_rfl) (by kernel_rfl) (by kernel_rfl) (fun _ _ _ h => h) (Or.inl ⟨by rfl, ?_⟩) (by assumption) ?_
      rotate_left
      · intro w hSw
        (try dsimp only at hSw)
        go_simp
        (try with_reducible rfl)
      (try simp only [Act.put, List.setIfInBounds_toArray, List.set_cons_zero, List.set_cons_succ, List.getElem_toArray, List.getElem_cons_succ, List.getElem_cons_zero])
      refine wpAnyH_take (i := 17) (v := undef) rfl (by kernel_rfl) (by kernel_rfl) (by kernel_rfl) (fun _ _ _ h => h) (Or.inr ⟨by kernel_rfl, rfl⟩) (by assumption) ?_
      (try simp only [Act.put, List.setIfInBounds_toArray, List.set_cons_zero, List.set_cons_succ, List.getElem_toArray, List.getElem_cons_succ, List.getElem_cons_zero])
      refine wpAnyH_take (i := 18) (v := undef) rfl (by kernel_rfl) (by kernel_rfl) (by kernel_rfl) (fun _ _ _ h => h) (Or.inr ⟨by kernel_rfl, rfl⟩) (by assumption) ?_
      (try simp only [Act.put, List.setIfInBounds_toArray, List.set_cons_zero, List.set_cons_succ, List.getElem_toArray, List.getElem_cons_succ, List.getElem_cons_zero])
      refine wpAnyH_take (i := 19) (v := undef) rfl (by kernel_rfl) (by kernel_rfl) (by kernel_rfl) (fun _ _ _ h => h) (Or.inr ⟨by kernel_rfl, rfl⟩) (by assumption) ?_
      (try simp only [Act.put, List.setIfInBounds_toArray, List.set_cons_zero, List.set_cons_succ, List.getElem_toArray, List.getElem_cons_succ, List.getElem_cons_zero])
      refine wpAnyH_take (i := 20) (v := ?_) rfl (by kernel_rfl) (by kernel_rfl) (by kernel_rfl) (fun _ _ _ h => h) (Or.inl ⟨by rfl, ?_⟩) (by assumption) ?_
      rotate_left
      · intro w hSw
        (try dsimp only at hSw)
        go_simp
        (try with_reducible rfl)
      (try simp only [Act.put, List.setIfInBounds_toArray, List.set_cons_zero, List.set_cons_succ, List.getElem_toArray, List.getElem_cons_succ, List.getElem_cons_zero])
      refine wpAnyH_take (i := 21) (v := ?_) rfl (by kernel_rfl) (by kernel_rfl) (by kernel_rfl) (fun _ _ _ h => h) (Or.inl ⟨by rfl, ?_⟩) (by assumption) ?_
      rotate_left
      · intro w hSw
        (try dsimp only at hSw)
        go_simp
        (try with_reducible rfl)
      (try simp only [Act.put, List.setIfInBounds_toArray, List.set_cons_zero, List.set_cons_succ, List.getElem_toArray, List.getElem_cons_succ, List.getElem_cons_zero])
      refine wpAnyH_take (i := 22) (v := undef) rfl (by kernel_rfl) (by kernel_rfl) (by kernel_rfl) (fun _ _ _ h => h) (Or.inr ⟨by kernel_rfl, rfl⟩) (by assumption) ?_
      (try simp only [Act.put, List.setIfInBounds_toArray, List.set_cons_zero, List.set_cons_succ, List.getElem_toArray, List.getElem_cons_succ, List.getElem_cons_zero])
      refine wpAnyH_take (i := 23) (v := undef) rfl (by kernel_rfl) (by kernel_rfl) (by kernel_rfl) (fun _ _ _ h => h) (Or.inr ⟨by kernel_rfl, rfl⟩) (by assumption) ?_
      (try simp only [Act.put, List.setIfInBounds_toArray, List.set_cons_zero, List.set_cons_succ, List.getElem_toArray, List.getElem_cons_succ, List.getElem_cons_zero])
      refine wpAnyH_take (i := 24) (v := undef) rfl (by kernel_rfl) (by kernel_rfl) (by kernel_rfl) (fun _ _ _ h => h) (Or.inr ⟨by kernel_rfl, rfl⟩) (by assumption) ?_
      (try simp only [Act.put, List.setIfInBounds_toArray, List.set_cons_zero, List.set_cons_succ, List.getElem_toArray, List.getElem_cons_succ, List.getElem_cons_zero])
      refine wpAnyH_take (i := 25) (v := ?_) rfl (by kernel_rfl) (by kernel_rfl) (by kernel_rfl) (fun _ _ _ h => h) (Or.inl ⟨by rfl, ?_⟩) (by assumption) ?_
      rotate_left
      · intro w hSw
        (try dsimp only at hSw)
        go_simp
        (try with_reducible rfl)
      (try simp only [Act.put, List.setIfInBounds_toArray, List.set_cons_zero, List.set_cons_succ, List.getElem_toArray, List.getElem_cons_succ, List.getElem_cons_zero])
      refine wpAnyH_take (i := 26) (v := ?_) rfl (by kernel_rfl) (by kernel_rfl) (by kernel_rfl) (fun _ _ _ h => h) (Or.inl ⟨by rfl, ?_⟩) (by assumption) ?_
      rotate_left
      · intro w hSw
        (try dsimp only at hSw)
        go_simp
        (try with_reducible rfl)
      (try simp only [Act.put, List.setIfInBounds_toArray, List.set_cons_zero, List.set_cons_succ, List.getElem_toArray, List.getElem_cons_succ, List.getElem_cons_zero])
      refine wpAnyH_take (i := 27) (v := ?_) rfl (by kernel_rfl) (by kernel_rfl) (by kernel_rfl) (fun _ _ _ h => h) (Or.inl ⟨by rfl, ?_⟩) (by assumption) ?_
      rotate_left
      · intro w hSw
        (try dsimp only at hSw)
        go_simp
        (try with_reducible rfl)
      (try simp only [Act.put, List.setIfInBounds_toArray, List.set_cons_zero, List.set_cons_succ, List.getElem_toArray, List.getElem_cons_succ, List.getElem_cons_zero])
      refine wpAnyH_ready (rs := [28]) (by kernel_rfl) (by simp) ?_
      refine AllReadyH.cons rfl (fun K hK => ?_) AllReadyH.nil
      go_simp
      (go_at_call 11; refine (lives_any _).mono ?_; rintro e w4 ⟨rfl, hb⟩; replace H := Lib.hid (H.out.kept hb); replace HT := Lib.hid (HT.out.below hb); clear hb)
      refine hK.out _ _ (by exact ⟨e15 _ HT.out, H.out.st.pc, H.out.ins⟩) (fun hHeld => ?_)
      clear hK K
      (try simp only [Act.put, List.setIfInBounds_toArray, List.set_cons_zero, List.set_cons_succ, List.getElem_toArray, List.getElem_cons_succ, List.getElem_cons_zero])
      refine wpAnyH_take (i := 29) (v := ?_) rfl (by kernel_rfl) (by kernel_rfl) (by kernel_rfl) (fun _ _ _ h => h) (Or.inl ⟨by rfl, ?_⟩) (by assumption) ?_
      rotate_left
      · intro w hSw
        (try dsimp only at hSw)
        go_simp
        (try with_reducible rfl)
      (try simp only [Act.put, List.setIfInBounds_toArray, List.set_cons_zero, List.set_cons_succ, List.getElem_toArray, List.getElem_cons_succ, List.getElem_cons_zero])
      refine wpAnyH_take (i := 30) (v := ?_) rfl (by kernel_rfl) (by kernel_rfl) (by kernel_rfl) (fun _ _ _ h => h) (Or.inl ⟨by rfl, ?_⟩) (by assumption) ?_
      rotate_left
      · intro w hSw
        (try dsimp only at hSw)
        go_simp
        (try with_reducible rfl)
      (try simp only [Act.put, List.setIfInBounds_toArray, List.set_cons_zero, List.set_cons_succ, List.getElem_toArray, List.getElem_cons_succ, List.getElem_cons_zero])
      refine wpAnyH_done (by kernel_rfl) ?_ _
      go_wp2
      go_ret
      exact ⟨rfl, H.out.bel⟩
set_option maxHeartbeats 8000000 in
set_option maxRecDepth 100000 in
theorem keeps_f2 (s0 : Cs.St) (rd1 rn1 rm1 ra1 imm1 cond1 : Int) (wide1 : Bool) (a2 : Int) (w : World) (hB : Cs.stepB ⟨23, rd1, rn1, rm1, ra1, imm1, cond1, wide1⟩ = true) (hX : (((Cs.stepS s0 ⟨23, rd1, rn1, rm1, ra1, imm1, cond1, wide1⟩ a2).n == s0.n) = true ∧ ((Cs.stepS s0 ⟨23, rd1, rn1, rm1, ra1, imm1, cond1, wide1⟩ a2).z == s0.z) = true ∧ ((Cs.stepS s0 ⟨23, rd1, rn1, rm1, ra1, imm1, cond1, wide1⟩ a2).c == s0.c) = false) ∧ (Cs.stepS s0 ⟨23, rd1, rn1, rm1, ra1, imm1, cond1, wide1⟩ a2).pc = Wd.add (Wd.wrap s0.pc) (Th.size ⟨23, rd1, rn1, rm1, ra1, imm1, cond1, wide1⟩)) :
    Calls Try.prog 7 #[.agg (Cs.cells s0), .agg #[.int .i64 23, .int .i64 rd1, .int .i64 rn1, .int .i64 rm1, .int .i64 ra1, .int .i64 imm1, .int .i64 cond1, .bool wide1], .int .i64 a2] w fun e w' => e = .returned (.bool true) ∧ Below w.heap.size w w' := by
  have H := Lib.hid (Cpu2.new w s0 23 rd1 rn1 rm1 ra1 imm1 cond1 wide1)
  obtain ⟨T, hT⟩ : ∃ T, T = Cs.stepS s0 ⟨23, rd1, rn1, rm1, ra1, imm1, cond1, wide1⟩ a2 := ⟨_, rfl⟩
  have hR : ∀ k : Nat, ¬ (k : Int) = rd1 → ¬ ((k : Int) = ra1 ∧ (23 : Int) = 17) → T.r k = Wd.wrap (s0.r k) := fun k h1 h2 => by rw [hT]; exact Cs.keeps_r s0 a2 hB k h1 h2
  have C0 : Hid (∀ w : World, Calls Try.prog 9 #[.agg (Cs.cells s0), .agg #[.int .i64 23, .int .i64 rd1, .int .i64 rn1, .int .i64 rm1, .int .i64 ra1, .int .i64 imm1, .int .i64 cond1, .bool wide1], .int .i64 a2] w fun e w' => e = .returned (.tuple #[.agg (Cs.cells T), .bool true]) ∧ Below w.heap.size w w') := by
    refine Lib.hid fun w => ?_
    have h := step_any s0 23 rd1 rn1 rm1 ra1 imm1 cond1 a2 wide1 w
    rw [hB, ← hT] at h
    exact h
  rw [← hT] at hX
  have HR := Lib.hid hR
  have HX := Lib.hid hX
  clear hR hX hT hB
  go_enter Try.func7, Try.ntmps7
  go_wp2_with (first | go_skip | ((with_reducible refine wpList_load_st H.out.st ?_ ?_); exact rfl) | (go_at_call 9; refine (C0.out _).mono ?_; rintro e w1 ⟨rfl, hb⟩; replace H := Lib.hid (H.out.kept hb); obtain ⟨i0, i1, i2, i3, i4, i5, i6, i7⟩ := H.out.ins; clear hb) | ((with_reducible refine wpList_store_st (state_alloc_zero _) T ?_ ?_); exact rfl; rw [World.setRow_alloc_new]; replace H := Lib.hid (H.out.alloc (.cells (Cs.cells T) 24)); have HT := Lib.hid (state_alloc w1 T); generalize World.alloc w1 _ = W2 at *; generalize w1.heap.size = bT at *; obtain ⟨i0, i1, i2, i3, i4, i5, i6, i7⟩ := H.out.ins))
  have Hs := H.out
  have HTs := HT.out
  clear i0 i1 i2 i3 i4 i5 i6 i7 H HT
  go_loopw [9] (fun K W => ∃ k : Nat, K = .int .i64 (k : Int) ∧ k ≤ 15 ∧ Cpu2 w w.heap.size W s0 23 rd1 rn1 rm1 ra1 imm1 cond1 wide1 ∧ StateAt W bT T) (fun K _ => 15 - (intOf K).toNat)
  case atStart => exact ⟨0, rfl, Nat.zero_le _, Hs, HTs⟩
  case round =>
    obtain ⟨k, rfl, hk, H0, HT0⟩ := hrel
    have H := Lib.hid H0
    have HT := Lib.hid HT0
    clear H0 HT0 Hs HTs
    by_cases hlt : k < 15
    · have hlt' : (k : Int) < 15 := by omega
      have hk0 : (0 : Int) ≤ (k : Int) := by omega
      have aK : bits .and .i64 (s0.r k) 4294967295 = Wd.wrap (s0.r k) := Wd.and_ones _
      have sk := H.out.st.reg k hlt
      have tk0 := HT.out.reg k hlt
      obtain ⟨i0, i1, i2, i3, i4, i5, i6, i7⟩ := H.out.ins
      cases hrd : ((k : Int) == rd1)
      · cases hra : ((k : Int) == ra1)
        · have tk : wr.cell? ⟨bT, k, none⟩ = some (.int .i64 (Wd.wrap (s0.r k))) := by rw [← HR.out k (by simpa using hrd) (fun h => by simp [h.1] at hra)]; exact tk0
          clear tk0
          go_wp2_with (first | go_skip | ((with_reducible refine wpList_take ?_ ?_); exact rfl; intro _ _))
          go_quiet (fail)
          go_wp2
          exact ⟨⟨k + 1, by go_num, by omega, H.out.kept (below_drewC (Below.refl _ _) nq), HT.out.below (below_drewC (Below.refl _ _) nq)⟩, by simp [intOf]; omega⟩
        · have tk : wr.cell? ⟨bT, k, none⟩ = some (.int .i64 (Wd.wrap (s0.r k))) := by rw [← HR.out k (by simpa using hrd) (fun h => absurd h.2 (by decide))]; exact tk0
          clear tk0
          go_wp2_with (first | go_skip | ((with_reducible refine wpList_take ?_ ?_); exact rfl; intro _ _))
          go_quiet (fail)
          go_wp2
          exact ⟨⟨k + 1, by go_num, by omega, H.out.kept (below_drewC (Below.refl _ _) nq), HT.out.below (below_drewC (Below.refl _ _) nq)⟩, by simp [intOf]; omega⟩
      · go_wp2_with (first | go_skip | ((with_reducible refine wpList_take ?_ ?_); exact rfl; intro _ _))
        go_quiet (fail)
        go_wp2
        exact ⟨⟨k + 1, by go_num, by omega, H.out.kept (below_drewC (Below.refl _ _) nq), HT.out.below (below_drewC (Below.refl _ _) nq)⟩, by simp [intOf]; omega⟩
    · obtain rfl : k = 15 := by omega
      have hge : ¬ (15 : Int) < 15 := by omega
      have hand : ∀ x : Int, bits .and .i64 (IntKind.i64.wrap (s0.pc + x)) 4294967295 = Wd.add (Wd.wrap s0.pc) x := fun x => by rw [Wd.and_ones, IntKind.wrap_i64]; unfold Wd.add Wd.wrap; omega
      obtain ⟨i0, i1, i2, i3, i4, i5, i6, i7⟩ := H.out.ins
      have sn := H.out.st.n
      have tn := HT.out.n
      have sz := H.out.st.z
      have tz := HT.out.z
      have sc := H.out.st.c
      have tc := HT.out.c
      have sv := H.out.st.v
      have tv := HT.out.v
      obtain ⟨x0, x1, x2⟩ := HX.out.1
      have xp := HX.out.2
      go_wp2_with (first | go_skip | ((with_reducible refine wpList_take ?_ ?_); exact rfl; intro _ _))
      replace H := Lib.hid H.out.drew
      replace HT : Hid (StateAt wr.drew bT T) := Lib.hid (HT.out.below (Below.refl _ _).drew)
      clear i0 i1 i2 i3 i4 i5 i6 i7 sn sz sc sv tn tz tc tv
      have e15 : ∀ W, StateAt W bT T → W.cell? ⟨bT, 15, none⟩ = some (.int .i64 (Wd.add (Wd.wrap s0.pc) (Th.size ⟨23, rd1, rn1, rm1, ra1, imm1, cond1, wide1⟩))) := fun W h => by rw [← HX.out.2]; exact h.pc
      clear xp
      refine wp_region_held_drew (S := fun wx => wx.cell? ⟨bT, 15, none⟩ = some (.int .i64 (Wd.add (Wd.wrap s0.pc) (Th.size ⟨23, rd1, rn1, rm1, ra1, imm1, cond1, wide1⟩))) ∧ wx.cell? ⟨w.heap.size, 15, none⟩ = some (.int .i64 s0.pc) ∧ InsAt wx (w.heap.size + 1) 23 rd1 rn1 rm1 ra1 imm1 cond1 wide1) (by kernel_rfl) (⟨e15 _ HT.out, H.out.st.pc, H.out.ins⟩) (fun hHeld => ?_)
      refine wpAnyH_take (i := 0) (v := ?_) rfl (by kernel_rfl) (by kernel_rfl) (by kernel_rfl) (fun _ _ _ h => h) (Or.inl ⟨by rfl, ?_⟩) (by assumption) ?_
      rotate_left
      · intro w hSw
        (try dsimp only at hSw)
        go_simp
        (try with_reducible rfl)
      (try simp only [Act.put, List.setIfInBounds_toArray, List.set_cons_zero, List.set_cons_succ, List.getElem_toArray, List.getElem_cons_succ, List.getElem_cons_zero])
      refine wpAnyH_take (i := 1) (v := ?_) rfl (by kernel_rfl) (by kernel_rfl) (by kernel_rfl) (fun _ _ _ h => h) (Or.inl ⟨by rfl, ?_⟩) (by assumption) ?_
      rotate_left
      · intro w hSw
        (try dsimp only at hSw)
        go_simp
        (try with_reducible rfl)
      (try simp only [Act.put, List.setIfInBounds_toArray, List.set_cons_zero, List.set_cons_succ, List.getElem_toArray, List.getElem_cons_succ, List.getElem_cons_zero])
      refine wpAnyH_take (i := 2) (v := ?_) rfl (by kernel_rfl) (by kernel_rfl) (by kernel_rfl) (fun _ _ _ h => h) (Or.inl ⟨by rfl, ?_⟩) (by assumption) ?_
      rotate_left
      · intro w hSw
        (try dsimp only at hSw)
        go_simp
        (try with_reducible rfl)
      (try simp only [Act.put, List.setIfInBounds_toArray, List.set_cons_zero, List.set_cons_succ, List.getElem_toArray, List.getElem_cons_succ, List.getElem_cons_zero])
      refine wpAnyH_take (i := 3) (v := ?_) rfl (by kernel_rfl) (by kernel_rfl) (by kernel_rfl) (fun _ _ _ h => h) (Or.inl ⟨by rfl, ?_⟩) (by assumption) ?_
      rotate_left
      · intro w hSw
        (try dsimp only at hSw)
        go_simp
        (try with_reducible rfl)
      (try simp only [Act.put, List.setIfInBounds_toArray, List.set_cons_zero, List.set_cons_succ, List.getElem_toArray, List.getElem_cons_succ, List.getElem_cons_zero])
      refine wpAnyH_take (i := 4) (v := ?_) rfl (by kernel_rfl) (by kernel_rfl) (by kernel_rfl) (fun _ _ _ h => h) (Or.inl ⟨by rfl, ?_⟩) (by assumption) ?_
      rotate_left
      · intro w hSw
        (try dsimp only at hSw)
        go_simp
        (try with_reducible rfl)
      (try simp only [Act.put, List.setIfInBounds_toArray, List.set_cons_zero, List.set_cons_succ, List.getElem_toArray, List.getElem_cons_succ, List.getElem_cons_zero])
      refine wpAnyH_take (i := 5) (v := ?_) rfl (by kernel_rfl) (by kernel_rfl) (by kernel_rfl) (fun _ _ _ h => h) (Or.inl ⟨by rfl, ?_⟩) (by assumption) ?_
      rotate_left
      · intro w hSw
        (try dsimp only at hSw)
        go_simp
        (try with_reducible rfl)
      (try simp only [Act.put, List.setIfInBounds_toArray, List.set_cons_zero, List.set_cons_succ, List.getElem_toArray, List.getElem_cons_succ, List.getElem_cons_zero])
      refine wpAnyH_take (i := 6) (v := ?_) rfl (by kernel_rfl) (by kernel_rfl) (by kernel_rfl) (fun _ _ _ h => h) (Or.inl ⟨by rfl, ?_⟩) (by assumption) ?_
      rotate_left
      · intro w hSw
        (try dsimp only at hSw)
        go_simp
        (try with_reducible rfl)
      (try simp only [Act.put, List.setIfInBounds_toArray, List.set_cons_zero, List.set_cons_succ, List.getElem_toArray, List.getElem_cons_succ, List.getElem_cons_zero])
      refine wpAnyH_take (i := 7) (v := ?_) rfl (by kernel_rfl) (by kernel_rfl) (by kernel_rfl) (fun _ _ _ h => h) (Or.inl ⟨by rfl, ?_⟩) (by assumption) ?_
      rotate_left
      · intro w hSw
        (try dsimp only at hSw)
        go_simp
        (try with_reducible rfl)
      (try simp only [Act.put, List.setIfInBounds_toArray, List.set_cons_zero, List.set_cons_succ, List.getElem_toArray, List.getElem_cons_succ, List.getElem_cons_zero])
      refine wpAnyH_take (i := 8) (v := ?_) rfl (by kernel_rfl) (by kernel_rfl) (by kernel_rfl) (fun _ _ _ h => h) (Or.inl ⟨by rfl, ?_⟩) (by assumption) ?_
      rotate_left
      · intro w hSw
        (try dsimp only at hSw)
        go_simp
        (try with_reducible rfl)
      (try simp only [Act.put, List.setIfInBounds_toArray, List.set_cons_zero, List.set_cons_succ, List.getElem_toArray, List.getElem_cons_succ, List.getElem_cons_zero])
      refine wpAnyH_take (i := 9) (v := ?_) rfl (by kernel_rfl) (by kernel_rfl) (by kernel_rfl) (fun _ _ _ h => h) (Or.inl ⟨by rfl, ?_⟩) (by assumption) ?_
      rotate_left
      · intro w hSw
        (try dsimp only at hSw)
        go_simp
        (try with_reducible rfl)
      (try simp only [Act.put, List.setIfInBounds_toArray, List.set_cons_zero, List.set_cons_succ, List.getElem_toArray, List.getElem_cons_succ, List.getElem_cons_zero])
      refine wpAnyH_take (i := 10) (v := ?_) rfl (by kernel_rfl) (by kernel_rfl) (by kernel_rfl) (fun _ _ _ h => h) (Or.inl ⟨by rfl, ?_⟩) (by assumption) ?_
      rotate_left
      · intro w hSw
        (try dsimp only at hSw)
        go_simp
        (try with_reducible rfl)
      (try simp only [Act.put, List.setIfInBounds_toArray, List.set_cons_zero, List.set_cons_succ, List.getElem_toArray, List.getElem_cons_succ, List.getElem_cons_zero])
      refine wpAnyH_take (i := 11) (v := ?_) rfl (by kernel_rfl) (by kernel_rfl) (by kernel_rfl) (fun _ _ _ h => h) (Or.inl ⟨by rfl, ?_⟩) (by assumption) ?_
      rotate_left
      · intro w hSw
        (try dsimp only at hSw)
        go_simp
        (try with_reducible rfl)
      (try simp only [Act.put, List.setIfInBounds_toArray, List.set_cons_zero, List.set_cons_succ, List.getElem_toArray, List.getElem_cons_succ, List.getElem_cons_zero])
      refine wpAnyH_ready (rs := [12]) (by kernel_rfl) (by simp) ?_
      refine AllReadyH.cons rfl (fun K hK => ?_) AllReadyH.nil
      go_simp
      (go_at_call 20; refine (size_any _ _ _ _ _ _ _ _ _).mono ?_; rintro e w3 ⟨rfl, hb⟩; replace H := Lib.hid (H.out.kept hb); replace HT := Lib.hid (HT.out.below hb); clear hb)
      refine hK.out _ _ (by exact ⟨e15 _ HT.out, H.out.st.pc, H.out.ins⟩) (fun hHeld => ?_)
      clear hK K
      (try simp only [Act.put, List.setIfInBounds_toArray, List.set_cons_zero, List.set_cons_succ, List.getElem_toArray, List.getElem_cons_succ, List.getElem_cons_zero])
      refine wpAnyH_take (i := 13) (v := ?_) rfl (by kernel_rfl) (by kernel_rfl) (by kernel_rfl) (fun _ _ _ h => h) (Or.inl ⟨by rfl, ?_⟩) (by assumption) ?_
      rotate_left
      · intro w hSw
        (try dsimp only at hSw)
        go_simp
        (try with_reducible rfl)
      (try simp only [Act.put, List.setIfInBounds_toArray, List.set_cons_zero, List.set_cons_succ, List.getElem_toArray, List.getElem_cons_succ, List.getElem_cons_zero])
      refine wpAnyH_take (i := 14) (v := ?_) rfl (by kernel_rfl) (by kernel_rfl) (by kernel_rfl) (fun _ _ _ h => h) (Or.inl ⟨by rfl, ?_⟩) (by assumption) ?_
      rotate_left
      · intro w hSw
        (try dsimp only at hSw)
        go_simp
        (try with_reducible rfl)
      (try simp only [Act.put, List.setIfInBounds_toArray, List.set_cons_zero, List.set_cons_succ, List.getElem_toArray, List.getElem_cons_succ, List.getElem_cons_zero])
      refine wpAnyH_take (i := 15) (v := ?_) rfl (by kernel_rfl) (by kernel_rfl) (by kernel_rfl) (fun _ _ _ h => h) (Or.inl ⟨by rfl, ?_⟩) (by assumption) ?_
      rotate_left
      · intro w hSw
        (try dsimp only at hSw)
        go_simp
        (try with_reducible rfl)
      (try simp only [Act.put, List.setIfInBounds_toArray, List.set_cons_zero, List.set_cons_succ, List.getElem_toArray, List.getElem_cons_succ, List.getElem_cons_zero])
      refine wpAnyH_take (i := 16) (v := ?_) rfl (by kernel_rfl) (by kernel_rfl) (by kernel_rfl) (fun _ _ _ h => h) (Or.inl ⟨by rfl, ?_⟩) (by assumption) ?_
      rotate_left
      · intro w hSw
        (try dsimp only at hSw)
        go_simp
        (try with_reducible rfl)
      (try simp only [Act.put, List.setIfInBounds_toArray, List.set_cons_zero, List.set_cons_succ, List.getElem_toArray, List.getElem_cons_succ, List.getElem_cons_zero])
      refine wpAnyH_take (i := 17) (v := undef) rfl (by kernel_rfl) (by kernel_rfl) (by kernel_rfl) (fun _ _ _ h => h) (Or.inr ⟨by kernel_rfl, rfl⟩) (by assumption) ?_
      (try simp only [Act.put, List.setIfInBounds_toArray, List.set_cons_zero, List.set_cons_succ, List.getElem_toArray, List.getElem_cons_succ, List.getElem_cons_zero])
      refine wpAnyH_take (i := 18) (v := undef) rfl (by kernel_rfl) (by kernel_rfl) (by kernel_rfl) (fun _ _ _ h => h) (Or.inr ⟨by kernel_rfl, rfl⟩) (by assumption) ?_
      (try simp only [Act.put, List.setIfInBounds_toArray, List.set_cons_zero, List.set_cons_succ, List.getElem_toArray, List.getElem_cons_succ, List.getElem_cons_zero])
      refine wpAnyH_take (i := 19) (v := undef) rfl (by kernel_rfl) (by kernel_rfl) (by kernel_rfl) (fun _ _ _ h => h) (Or.inr ⟨by kernel_rfl, rfl⟩) (by assumption) ?_
      (try simp only [Act.put, List.setIfInBounds_toArray, List.set_cons_zero, List.set_cons_succ, List.getElem_toArray, List.getElem_cons_succ, List.getElem_cons_zero])
      refine wpAnyH_take (i := 20) (v := ?_) rfl (by kernel_rfl) (by kernel_rfl) (by kernel_rfl) (fun _ _ _ h => h) (Or.inl ⟨by rfl, ?_⟩) (by assumption) ?_
      rotate_left
      · intro w hSw
        (try dsimp only at hSw)
        go_simp
        (try with_reducible rfl)
      (try simp only [Act.put, List.setIfInBounds_toArray, List.set_cons_zero, List.set_cons_succ, List.getElem_toArray, List.getElem_cons_succ, List.getElem_cons_zero])
      refine wpAnyH_take (i := 21) (v := ?_) rfl (by kernel_rfl) (by kernel_rfl) (by kernel_rfl) (fun _ _ _ h => h) (Or.inl ⟨by rfl, ?_⟩) (by assumption) ?_
      rotate_left
      · intro w hSw
        (try dsimp only at hSw)
        go_simp
        (try with_reducible rfl)
      (try simp only [Act.put, List.setIfInBounds_toArray, List.set_cons_zero, List.set_cons_succ, List.getElem_toArray, List.getElem_cons_succ, List.getElem_cons_zero])
      refine wpAnyH_take (i := 22) (v := undef) rfl (by kernel_rfl) (by kernel_rfl) (by kernel_rfl) (fun _ _ _ h => h) (Or.inr ⟨by kernel_rfl, rfl⟩) (by assumption) ?_
      (try simp only [Act.put, List.setIfInBounds_toArray, List.set_cons_zero, List.set_cons_succ, List.getElem_toArray, List.getElem_cons_succ, List.getElem_cons_zero])
      refine wpAnyH_take (i := 23) (v := undef) rfl (by kernel_rfl) (by kernel_rfl) (by kernel_rfl) (fun _ _ _ h => h) (Or.inr ⟨by kernel_rfl, rfl⟩) (by assumption) ?_
      (try simp only [Act.put, List.setIfInBounds_toArray, List.set_cons_zero, List.set_cons_succ, List.getElem_toArray, List.getElem_cons_succ, List.getElem_cons_zero])
      refine wpAnyH_take (i := 24) (v := undef) rfl (by kernel_rfl) (by kernel_rfl) (by kernel_rfl) (fun _ _ _ h => h) (Or.inr ⟨by kernel_rfl, rfl⟩) (by assumption) ?_
      (try simp only [Act.put, List.setIfInBounds_toArray, List.set_cons_zero, List.set_cons_succ, List.getElem_toArray, List.getElem_cons_succ, List.getElem_cons_zero])
      refine wpAnyH_take (i := 25) (v := ?_) rfl (by kernel_rfl) (by kernel_rfl) (by kernel_rfl) (fun _ _ _ h => h) (Or.inl ⟨by rfl, ?_⟩) (by assumption) ?_
      rotate_left
      · intro w hSw
        (try dsimp only at hSw)
        go_simp
        (try with_reducible rfl)
      (try simp only [Act.put, List.setIfInBounds_toArray, List.set_cons_zero, List.set_cons_succ, List.getElem_toArray, List.getElem_cons_succ, List.getElem_cons_zero])
      refine wpAnyH_take (i := 26) (v := ?_) rfl (by kernel_rfl) (by kernel_rfl) (by kernel_rfl) (fun _ _ _ h => h) (Or.inl ⟨by rfl, ?_⟩) (by assumption) ?_
      rotate_left
      · intro w hSw
        (try dsimp only at hSw)
        go_simp
        (try with_reducible rfl)
      (try simp only [Act.put, List.setIfInBounds_toArray, List.set_cons_zero, List.set_cons_succ, List.getElem_toArray, List.getElem_cons_succ, List.getElem_cons_zero])
      refine wpAnyH_take (i := 27) (v := ?_) rfl (by kernel_rfl) (by kernel_rfl) (by kernel_rfl) (fun _ _ _ h => h) (Or.inl ⟨by rfl, ?_⟩) (by assumption) ?_
      rotate_left
      · intro w hSw
        (try dsimp only at hSw)
        go_simp
        (try with_reducible rfl)
      (try simp only [Act.put, List.setIfInBounds_toArray, List.set_cons_zero, List.set_cons_succ, List.getElem_toArray, List.getElem_cons_succ, List.getElem_cons_zero])
      refine wpAnyH_ready (rs := [28]) (by kernel_rfl) (by simp) ?_
      refine AllReadyH.cons rfl (fun K hK => ?_) AllReadyH.nil
      go_simp
      (go_at_call 11; refine (lives_any _).mono ?_; rintro e w4 ⟨rfl, hb⟩; replace H := Lib.hid (H.out.kept hb); replace HT := Lib.hid (HT.out.below hb); clear hb)
      refine hK.out _ _ (by exact ⟨e15 _ HT.out, H.out.st.pc, H.out.ins⟩) (fun hHeld => ?_)
      clear hK K
      (try simp only [Act.put, List.setIfInBounds_toArray, List.set_cons_zero, List.set_cons_succ, List.getElem_toArray, List.getElem_cons_succ, List.getElem_cons_zero])
      refine wpAnyH_take (i := 29) (v := ?_) rfl (by kernel_rfl) (by kernel_rfl) (by kernel_rfl) (fun _ _ _ h => h) (Or.inl ⟨by rfl, ?_⟩) (by assumption) ?_
      rotate_left
      · intro w hSw
        (try dsimp only at hSw)
        go_simp
        (try with_reducible rfl)
      (try simp only [Act.put, List.setIfInBounds_toArray, List.set_cons_zero, List.set_cons_succ, List.getElem_toArray, List.getElem_cons_succ, List.getElem_cons_zero])
      refine wpAnyH_take (i := 30) (v := ?_) rfl (by kernel_rfl) (by kernel_rfl) (by kernel_rfl) (fun _ _ _ h => h) (Or.inl ⟨by rfl, ?_⟩) (by assumption) ?_
      rotate_left
      · intro w hSw
        (try dsimp only at hSw)
        go_simp
        (try with_reducible rfl)
      (try simp only [Act.put, List.setIfInBounds_toArray, List.set_cons_zero, List.set_cons_succ, List.getElem_toArray, List.getElem_cons_succ, List.getElem_cons_zero])
      refine wpAnyH_done (by kernel_rfl) ?_ _
      go_wp2
      go_ret
      exact ⟨rfl, H.out.bel⟩
set_option maxHeartbeats 8000000 in
set_option maxRecDepth 100000 in
theorem keeps_f3 (s0 : Cs.St) (rd1 rn1 rm1 ra1 imm1 cond1 : Int) (wide1 : Bool) (a2 : Int) (w : World) (hB : Cs.stepB ⟨23, rd1, rn1, rm1, ra1, imm1, cond1, wide1⟩ = true) (hX : (((Cs.stepS s0 ⟨23, rd1, rn1, rm1, ra1, imm1, cond1, wide1⟩ a2).n == s0.n) = true ∧ ((Cs.stepS s0 ⟨23, rd1, rn1, rm1, ra1, imm1, cond1, wide1⟩ a2).z == s0.z) = true ∧ ((Cs.stepS s0 ⟨23, rd1, rn1, rm1, ra1, imm1, cond1, wide1⟩ a2).c == s0.c) = true ∧ ((Cs.stepS s0 ⟨23, rd1, rn1, rm1, ra1, imm1, cond1, wide1⟩ a2).v == s0.v) = false) ∧ (Cs.stepS s0 ⟨23, rd1, rn1, rm1, ra1, imm1, cond1, wide1⟩ a2).pc = Wd.add (Wd.wrap s0.pc) (Th.size ⟨23, rd1, rn1, rm1, ra1, imm1, cond1, wide1⟩)) :
    Calls Try.prog 7 #[.agg (Cs.cells s0), .agg #[.int .i64 23, .int .i64 rd1, .int .i64 rn1, .int .i64 rm1, .int .i64 ra1, .int .i64 imm1, .int .i64 cond1, .bool wide1], .int .i64 a2] w fun e w' => e = .returned (.bool true) ∧ Below w.heap.size w w' := by
  have H := Lib.hid (Cpu2.new w s0 23 rd1 rn1 rm1 ra1 imm1 cond1 wide1)
  obtain ⟨T, hT⟩ : ∃ T, T = Cs.stepS s0 ⟨23, rd1, rn1, rm1, ra1, imm1, cond1, wide1⟩ a2 := ⟨_, rfl⟩
  have hR : ∀ k : Nat, ¬ (k : Int) = rd1 → ¬ ((k : Int) = ra1 ∧ (23 : Int) = 17) → T.r k = Wd.wrap (s0.r k) := fun k h1 h2 => by rw [hT]; exact Cs.keeps_r s0 a2 hB k h1 h2
  have C0 : Hid (∀ w : World, Calls Try.prog 9 #[.agg (Cs.cells s0), .agg #[.int .i64 23, .int .i64 rd1, .int .i64 rn1, .int .i64 rm1, .int .i64 ra1, .int .i64 imm1, .int .i64 cond1, .bool wide1], .int .i64 a2] w fun e w' => e = .returned (.tuple #[.agg (Cs.cells T), .bool true]) ∧ Below w.heap.size w w') := by
    refine Lib.hid fun w => ?_
    have h := step_any s0 23 rd1 rn1 rm1 ra1 imm1 cond1 a2 wide1 w
    rw [hB, ← hT] at h
    exact h
  rw [← hT] at hX
  have HR := Lib.hid hR
  have HX := Lib.hid hX
  clear hR hX hT hB
  go_enter Try.func7, Try.ntmps7
  go_wp2_with (first | go_skip | ((with_reducible refine wpList_load_st H.out.st ?_ ?_); exact rfl) | (go_at_call 9; refine (C0.out _).mono ?_; rintro e w1 ⟨rfl, hb⟩; replace H := Lib.hid (H.out.kept hb); obtain ⟨i0, i1, i2, i3, i4, i5, i6, i7⟩ := H.out.ins; clear hb) | ((with_reducible refine wpList_store_st (state_alloc_zero _) T ?_ ?_); exact rfl; rw [World.setRow_alloc_new]; replace H := Lib.hid (H.out.alloc (.cells (Cs.cells T) 24)); have HT := Lib.hid (state_alloc w1 T); generalize World.alloc w1 _ = W2 at *; generalize w1.heap.size = bT at *; obtain ⟨i0, i1, i2, i3, i4, i5, i6, i7⟩ := H.out.ins))
  have Hs := H.out
  have HTs := HT.out
  clear i0 i1 i2 i3 i4 i5 i6 i7 H HT
  go_loopw [9] (fun K W => ∃ k : Nat, K = .int .i64 (k : Int) ∧ k ≤ 15 ∧ Cpu2 w w.heap.size W s0 23 rd1 rn1 rm1 ra1 imm1 cond1 wide1 ∧ StateAt W bT T) (fun K _ => 15 - (intOf K).toNat)
  case atStart => exact ⟨0, rfl, Nat.zero_le _, Hs, HTs⟩
  case round =>
    obtain ⟨k, rfl, hk, H0, HT0⟩ := hrel
    have H := Lib.hid H0
    have HT := Lib.hid HT0
    clear H0 HT0 Hs HTs
    by_cases hlt : k < 15
    · have hlt' : (k : Int) < 15 := by omega
      have hk0 : (0 : Int) ≤ (k : Int) := by omega
      have aK : bits .and .i64 (s0.r k) 4294967295 = Wd.wrap (s0.r k) := Wd.and_ones _
      have sk := H.out.st.reg k hlt
      have tk0 := HT.out.reg k hlt
      obtain ⟨i0, i1, i2, i3, i4, i5, i6, i7⟩ := H.out.ins
      cases hrd : ((k : Int) == rd1)
      · cases hra : ((k : Int) == ra1)
        · have tk : wr.cell? ⟨bT, k, none⟩ = some (.int .i64 (Wd.wrap (s0.r k))) := by rw [← HR.out k (by simpa using hrd) (fun h => by simp [h.1] at hra)]; exact tk0
          clear tk0
          go_wp2_with (first | go_skip | ((with_reducible refine wpList_take ?_ ?_); exact rfl; intro _ _))
          go_quiet (fail)
          go_wp2
          exact ⟨⟨k + 1, by go_num, by omega, H.out.kept (below_drewC (Below.refl _ _) nq), HT.out.below (below_drewC (Below.refl _ _) nq)⟩, by simp [intOf]; omega⟩
        · have tk : wr.cell? ⟨bT, k, none⟩ = some (.int .i64 (Wd.wrap (s0.r k))) := by rw [← HR.out k (by simpa using hrd) (fun h => absurd h.2 (by decide))]; exact tk0
          clear tk0
          go_wp2_with (first | go_skip | ((with_reducible refine wpList_take ?_ ?_); exact rfl; intro _ _))
          go_quiet (fail)
          go_wp2
          exact ⟨⟨k + 1, by go_num, by omega, H.out.kept (below_drewC (Below.refl _ _) nq), HT.out.below (below_drewC (Below.refl _ _) nq)⟩, by simp [intOf]; omega⟩
      · go_wp2_with (first | go_skip | ((with_reducible refine wpList_take ?_ ?_); exact rfl; intro _ _))
        go_quiet (fail)
        go_wp2
        exact ⟨⟨k + 1, by go_num, by omega, H.out.kept (below_drewC (Below.refl _ _) nq), HT.out.below (below_drewC (Below.refl _ _) nq)⟩, by simp [intOf]; omega⟩
    · obtain rfl : k = 15 := by omega
      have hge : ¬ (15 : Int) < 15 := by omega
      have hand : ∀ x : Int, bits .and .i64 (IntKind.i64.wrap (s0.pc + x)) 4294967295 = Wd.add (Wd.wrap s0.pc) x := fun x => by rw [Wd.and_ones, IntKind.wrap_i64]; unfold Wd.add Wd.wrap; omega
      obtain ⟨i0, i1, i2, i3, i4, i5, i6, i7⟩ := H.out.ins
      have sn := H.out.st.n
      have tn := HT.out.n
      have sz := H.out.st.z
      have tz := HT.out.z
      have sc := H.out.st.c
      have tc := HT.out.c
      have sv := H.out.st.v
      have tv := HT.out.v
      obtain ⟨x0, x1, x2, x3⟩ := HX.out.1
      have xp := HX.out.2
      go_wp2_with (first | go_skip | ((with_reducible refine wpList_take ?_ ?_); exact rfl; intro _ _))
      replace H := Lib.hid H.out.drew
      replace HT : Hid (StateAt wr.drew bT T) := Lib.hid (HT.out.below (Below.refl _ _).drew)
      clear i0 i1 i2 i3 i4 i5 i6 i7 sn sz sc sv tn tz tc tv
      have e15 : ∀ W, StateAt W bT T → W.cell? ⟨bT, 15, none⟩ = some (.int .i64 (Wd.add (Wd.wrap s0.pc) (Th.size ⟨23, rd1, rn1, rm1, ra1, imm1, cond1, wide1⟩))) := fun W h => by rw [← HX.out.2]; exact h.pc
      clear xp
      refine wp_region_held_drew (S := fun wx => wx.cell? ⟨bT, 15, none⟩ = some (.int .i64 (Wd.add (Wd.wrap s0.pc) (Th.size ⟨23, rd1, rn1, rm1, ra1, imm1, cond1, wide1⟩))) ∧ wx.cell? ⟨w.heap.size, 15, none⟩ = some (.int .i64 s0.pc) ∧ InsAt wx (w.heap.size + 1) 23 rd1 rn1 rm1 ra1 imm1 cond1 wide1) (by kernel_rfl) (⟨e15 _ HT.out, H.out.st.pc, H.out.ins⟩) (fun hHeld => ?_)
      refine wpAnyH_take (i := 0) (v := ?_) rfl (by kernel_rfl) (by kernel_rfl) (by kernel_rfl) (fun _ _ _ h => h) (Or.inl ⟨by rfl, ?_⟩) (by assumption) ?_
      rotate_left
      · intro w hSw
        (try dsimp only at hSw)
        go_simp
        (try with_reducible rfl)
      (try simp only [Act.put, List.setIfInBounds_toArray, List.set_cons_zero, List.set_cons_succ, List.getElem_toArray, List.getElem_cons_succ, List.getElem_cons_zero])
      refine wpAnyH_take (i := 1) (v := ?_) rfl (by kernel_rfl) (by kernel_rfl) (by kernel_rfl) (fun _ _ _ h => h) (Or.inl ⟨by rfl, ?_⟩) (by assumption) ?_
      rotate_left
      · intro w hSw
        (try dsimp only at hSw)
        go_simp
        (try with_reducible rfl)
      (try simp only [Act.put, List.setIfInBounds_toArray, List.set_cons_zero, List.set_cons_succ, List.getElem_toArray, List.getElem_cons_succ, List.getElem_cons_zero])
      refine wpAnyH_take (i := 2) (v := ?_) rfl (by kernel_rfl) (by kernel_rfl) (by kernel_rfl) (fun _ _ _ h => h) (Or.inl ⟨by rfl, ?_⟩) (by assumption) ?_
      rotate_left
      · intro w hSw
        (try dsimp only at hSw)
        go_simp
        (try with_reducible rfl)
      (try simp only [Act.put, List.setIfInBounds_toArray, List.set_cons_zero, List.set_cons_succ, List.getElem_toArray, List.getElem_cons_succ, List.getElem_cons_zero])
      refine wpAnyH_take (i := 3) (v := ?_) rfl (by kernel_rfl) (by kernel_rfl) (by kernel_rfl) (fun _ _ _ h => h) (Or.inl ⟨by rfl, ?_⟩) (by assumption) ?_
      rotate_left
      · intro w hSw
        (try dsimp only at hSw)
        go_simp
        (try with_reducible rfl)
      (try simp only [Act.put, List.setIfInBounds_toArray, List.set_cons_zero, List.set_cons_succ, List.getElem_toArray, List.getElem_cons_succ, List.getElem_cons_zero])
      refine wpAnyH_take (i := 4) (v := ?_) rfl (by kernel_rfl) (by kernel_rfl) (by kernel_rfl) (fun _ _ _ h => h) (Or.inl ⟨by rfl, ?_⟩) (by assumption) ?_
      rotate_left
      · intro w hSw
        (try dsimp only at hSw)
        go_simp
        (try with_reducible rfl)
      (try simp only [Act.put, List.setIfInBounds_toArray, List.set_cons_zero, List.set_cons_succ, List.getElem_toArray, List.getElem_cons_succ, List.getElem_cons_zero])
      refine wpAnyH_take (i := 5) (v := ?_) rfl (by kernel_rfl) (by kernel_rfl) (by kernel_rfl) (fun _ _ _ h => h) (Or.inl ⟨by rfl, ?_⟩) (by assumption) ?_
      rotate_left
      · intro w hSw
        (try dsimp only at hSw)
        go_simp
        (try with_reducible rfl)
      (try simp only [Act.put, List.setIfInBounds_toArray, List.set_cons_zero, List.set_cons_succ, List.getElem_toArray, List.getElem_cons_succ, List.getElem_cons_zero])
      refine wpAnyH_take (i := 6) (v := ?_) rfl (by kernel_rfl) (by kernel_rfl) (by kernel_rfl) (fun _ _ _ h => h) (Or.inl ⟨by rfl, ?_⟩) (by assumption) ?_
      rotate_left
      · intro w hSw
        (try dsimp only at hSw)
        go_simp
        (try with_reducible rfl)
      (try simp only [Act.put, List.setIfInBounds_toArray, List.set_cons_zero, List.set_cons_succ, List.getElem_toArray, List.getElem_cons_succ, List.getElem_cons_zero])
      refine wpAnyH_take (i := 7) (v := ?_) rfl (by kernel_rfl) (by kernel_rfl) (by kernel_rfl) (fun _ _ _ h => h) (Or.inl ⟨by rfl, ?_⟩) (by assumption) ?_
      rotate_left
      · intro w hSw
        (try dsimp only at hSw)
        go_simp
        (try with_reducible rfl)
      (try simp only [Act.put, List.setIfInBounds_toArray, List.set_cons_zero, List.set_cons_succ, List.getElem_toArray, List.getElem_cons_succ, List.getElem_cons_zero])
      refine wpAnyH_take (i := 8) (v := ?_) rfl (by kernel_rfl) (by kernel_rfl) (by kernel_rfl) (fun _ _ _ h => h) (Or.inl ⟨by rfl, ?_⟩) (by assumption) ?_
      rotate_left
      · intro w hSw
        (try dsimp only at hSw)
        go_simp
        (try with_reducible rfl)
      (try simp only [Act.put, List.setIfInBounds_toArray, List.set_cons_zero, List.set_cons_succ, List.getElem_toArray, List.getElem_cons_succ, List.getElem_cons_zero])
      refine wpAnyH_take (i := 9) (v := ?_) rfl (by kernel_rfl) (by kernel_rfl) (by kernel_rfl) (fun _ _ _ h => h) (Or.inl ⟨by rfl, ?_⟩) (by assumption) ?_
      rotate_left
      · intro w hSw
        (try dsimp only at hSw)
        go_simp
        (try with_reducible rfl)
      (try simp only [Act.put, List.setIfInBounds_toArray, List.set_cons_zero, List.set_cons_succ, List.getElem_toArray, List.getElem_cons_succ, List.getElem_cons_zero])
      refine wpAnyH_take (i := 10) (v := ?_) rfl (by kernel_rfl) (by kernel_rfl) (by kernel_rfl) (fun _ _ _ h => h) (Or.inl ⟨by rfl, ?_⟩) (by assumption) ?_
      rotate_left
      · intro w hSw
        (try dsimp only at hSw)
        go_simp
        (try with_reducible rfl)
      (try simp only [Act.put, List.setIfInBounds_toArray, List.set_cons_zero, List.set_cons_succ, List.getElem_toArray, List.getElem_cons_succ, List.getElem_cons_zero])
      refine wpAnyH_take (i := 11) (v := ?_) rfl (by kernel_rfl) (by kernel_rfl) (by kernel_rfl) (fun _ _ _ h => h) (Or.inl ⟨by rfl, ?_⟩) (by assumption) ?_
      rotate_left
      · intro w hSw
        (try dsimp only at hSw)
        go_simp
        (try with_reducible rfl)
      (try simp only [Act.put, List.setIfInBounds_toArray, List.set_cons_zero, List.set_cons_succ, List.getElem_toArray, List.getElem_cons_succ, List.getElem_cons_zero])
      refine wpAnyH_ready (rs := [12]) (by kernel_rfl) (by simp) ?_
      refine AllReadyH.cons rfl (fun K hK => ?_) AllReadyH.nil
      go_simp
      (go_at_call 20; refine (size_any _ _ _ _ _ _ _ _ _).mono ?_; rintro e w3 ⟨rfl, hb⟩; replace H := Lib.hid (H.out.kept hb); replace HT := Lib.hid (HT.out.below hb); clear hb)
      refine hK.out _ _ (by exact ⟨e15 _ HT.out, H.out.st.pc, H.out.ins⟩) (fun hHeld => ?_)
      clear hK K
      (try simp only [Act.put, List.setIfInBounds_toArray, List.set_cons_zero, List.set_cons_succ, List.getElem_toArray, List.getElem_cons_succ, List.getElem_cons_zero])
      refine wpAnyH_take (i := 13) (v := ?_) rfl (by kernel_rfl) (by kernel_rfl) (by kernel_rfl) (fun _ _ _ h => h) (Or.inl ⟨by rfl, ?_⟩) (by assumption) ?_
      rotate_left
      · intro w hSw
        (try dsimp only at hSw)
        go_simp
        (try with_reducible rfl)
      (try simp only [Act.put, List.setIfInBounds_toArray, List.set_cons_zero, List.set_cons_succ, List.getElem_toArray, List.getElem_cons_succ, List.getElem_cons_zero])
      refine wpAnyH_take (i := 14) (v := ?_) rfl (by kernel_rfl) (by kernel_rfl) (by kernel_rfl) (fun _ _ _ h => h) (Or.inl ⟨by rfl, ?_⟩) (by assumption) ?_
      rotate_left
      · intro w hSw
        (try dsimp only at hSw)
        go_simp
        (try with_reducible rfl)
      (try simp only [Act.put, List.setIfInBounds_toArray, List.set_cons_zero, List.set_cons_succ, List.getElem_toArray, List.getElem_cons_succ, List.getElem_cons_zero])
      refine wpAnyH_take (i := 15) (v := ?_) rfl (by kernel_rfl) (by kernel_rfl) (by kernel_rfl) (fun _ _ _ h => h) (Or.inl ⟨by rfl, ?_⟩) (by assumption) ?_
      rotate_left
      · intro w hSw
        (try dsimp only at hSw)
        go_simp
        (try with_reducible rfl)
      (try simp only [Act.put, List.setIfInBounds_toArray, List.set_cons_zero, List.set_cons_succ, List.getElem_toArray, List.getElem_cons_succ, List.getElem_cons_zero])
      refine wpAnyH_take (i := 16) (v := ?_) rfl (by kernel_rfl) (by kernel_rfl) (by kernel_rfl) (fun _ _ _ h => h) (Or.inl ⟨by rfl, ?_⟩) (by assumption) ?_
      rotate_left
      · intro w hSw
        (try dsimp only at hSw)
        go_simp
        (try with_reducible rfl)
      (try simp only [Act.put, List.setIfInBounds_toArray, List.set_cons_zero, List.set_cons_succ, List.getElem_toArray, List.getElem_cons_succ, List.getElem_cons_zero])
      refine wpAnyH_take (i := 17) (v := undef) rfl (by kernel_rfl) (by kernel_rfl) (by kernel_rfl) (fun _ _ _ h => h) (Or.inr ⟨by kernel_rfl, rfl⟩) (by assumption) ?_
      (try simp only [Act.put, List.setIfInBounds_toArray, List.set_cons_zero, List.set_cons_succ, List.getElem_toArray, List.getElem_cons_succ, List.getElem_cons_zero])
      refine wpAnyH_take (i := 18) (v := undef) rfl (by kernel_rfl) (by kernel_rfl) (by kernel_rfl) (fun _ _ _ h => h) (Or.inr ⟨by kernel_rfl, rfl⟩) (by assumption) ?_
      (try simp only [Act.put, List.setIfInBounds_toArray, List.set_cons_zero, List.set_cons_succ, List.getElem_toArray, List.getElem_cons_succ, List.getElem_cons_zero])
      refine wpAnyH_take (i := 19) (v := undef) rfl (by kernel_rfl) (by kernel_rfl) (by kernel_rfl) (fun _ _ _ h => h) (Or.inr ⟨by kernel_rfl, rfl⟩) (by assumption) ?_
      (try simp only [Act.put, List.setIfInBounds_toArray, List.set_cons_zero, List.set_cons_succ, List.getElem_toArray, List.getElem_cons_succ, List.getElem_cons_zero])
      refine wpAnyH_take (i := 20) (v := ?_) rfl (by kernel_rfl) (by kernel_rfl) (by kernel_rfl) (fun _ _ _ h => h) (Or.inl ⟨by rfl, ?_⟩) (by assumption) ?_
      rotate_left
      · intro w hSw
        (try dsimp only at hSw)
        go_simp
        (try with_reducible rfl)
      (try simp only [Act.put, List.setIfInBounds_toArray, List.set_cons_zero, List.set_cons_succ, List.getElem_toArray, List.getElem_cons_succ, List.getElem_cons_zero])
      refine wpAnyH_take (i := 21) (v := ?_) rfl (by kernel_rfl) (by kernel_rfl) (by kernel_rfl) (fun _ _ _ h => h) (Or.inl ⟨by rfl, ?_⟩) (by assumption) ?_
      rotate_left
      · intro w hSw
        (try dsimp only at hSw)
        go_simp
        (try with_reducible rfl)
      (try simp only [Act.put, List.setIfInBounds_toArray, List.set_cons_zero, List.set_cons_succ, List.getElem_toArray, List.getElem_cons_succ, List.getElem_cons_zero])
      refine wpAnyH_take (i := 22) (v := undef) rfl (by kernel_rfl) (by kernel_rfl) (by kernel_rfl) (fun _ _ _ h => h) (Or.inr ⟨by kernel_rfl, rfl⟩) (by assumption) ?_
      (try simp only [Act.put, List.setIfInBounds_toArray, List.set_cons_zero, List.set_cons_succ, List.getElem_toArray, List.getElem_cons_succ, List.getElem_cons_zero])
      refine wpAnyH_take (i := 23) (v := undef) rfl (by kernel_rfl) (by kernel_rfl) (by kernel_rfl) (fun _ _ _ h => h) (Or.inr ⟨by kernel_rfl, rfl⟩) (by assumption) ?_
      (try simp only [Act.put, List.setIfInBounds_toArray, List.set_cons_zero, List.set_cons_succ, List.getElem_toArray, List.getElem_cons_succ, List.getElem_cons_zero])
      refine wpAnyH_take (i := 24) (v := undef) rfl (by kernel_rfl) (by kernel_rfl) (by kernel_rfl) (fun _ _ _ h => h) (Or.inr ⟨by kernel_rfl, rfl⟩) (by assumption) ?_
      (try simp only [Act.put, List.setIfInBounds_toArray, List.set_cons_zero, List.set_cons_succ, List.getElem_toArray, List.getElem_cons_succ, List.getElem_cons_zero])
      refine wpAnyH_take (i := 25) (v := ?_) rfl (by kernel_rfl) (by kernel_rfl) (by kernel_rfl) (fun _ _ _ h => h) (Or.inl ⟨by rfl, ?_⟩) (by assumption) ?_
      rotate_left
      · intro w hSw
        (try dsimp only at hSw)
        go_simp
        (try with_reducible rfl)
      (try simp only [Act.put, List.setIfInBounds_toArray, List.set_cons_zero, List.set_cons_succ, List.getElem_toArray, List.getElem_cons_succ, List.getElem_cons_zero])
      refine wpAnyH_take (i := 26) (v := ?_) rfl (by kernel_rfl) (by kernel_rfl) (by kernel_rfl) (fun _ _ _ h => h) (Or.inl ⟨by rfl, ?_⟩) (by assumption) ?_
      rotate_left
      · intro w hSw
        (try dsimp only at hSw)
        go_simp
        (try with_reducible rfl)
      (try simp only [Act.put, List.setIfInBounds_toArray, List.set_cons_zero, List.set_cons_succ, List.getElem_toArray, List.getElem_cons_succ, List.getElem_cons_zero])
      refine wpAnyH_take (i := 27) (v := ?_) rfl (by kernel_rfl) (by kernel_rfl) (by kernel_rfl) (fun _ _ _ h => h) (Or.inl ⟨by rfl, ?_⟩) (by assumption) ?_
      rotate_left
      · intro w hSw
        (try dsimp only at hSw)
        go_simp
        (try with_reducible rfl)
      (try simp only [Act.put, List.setIfInBounds_toArray, List.set_cons_zero, List.set_cons_succ, List.getElem_toArray, List.getElem_cons_succ, List.getElem_cons_zero])
      refine wpAnyH_ready (rs := [28]) (by kernel_rfl) (by simp) ?_
      refine AllReadyH.cons rfl (fun K hK => ?_) AllReadyH.nil
      go_simp
      (go_at_call 11; refine (lives_any _).mono ?_; rintro e w4 ⟨rfl, hb⟩; replace H := Lib.hid (H.out.kept hb); replace HT := Lib.hid (HT.out.below hb); clear hb)
      refine hK.out _ _ (by exact ⟨e15 _ HT.out, H.out.st.pc, H.out.ins⟩) (fun hHeld => ?_)
      clear hK K
      (try simp only [Act.put, List.setIfInBounds_toArray, List.set_cons_zero, List.set_cons_succ, List.getElem_toArray, List.getElem_cons_succ, List.getElem_cons_zero])
      refine wpAnyH_take (i := 29) (v := ?_) rfl (by kernel_rfl) (by kernel_rfl) (by kernel_rfl) (fun _ _ _ h => h) (Or.inl ⟨by rfl, ?_⟩) (by assumption) ?_
      rotate_left
      · intro w hSw
        (try dsimp only at hSw)
        go_simp
        (try with_reducible rfl)
      (try simp only [Act.put, List.setIfInBounds_toArray, List.set_cons_zero, List.set_cons_succ, List.getElem_toArray, List.getElem_cons_succ, List.getElem_cons_zero])
      refine wpAnyH_take (i := 30) (v := ?_) rfl (by kernel_rfl) (by kernel_rfl) (by kernel_rfl) (fun _ _ _ h => h) (Or.inl ⟨by rfl, ?_⟩) (by assumption) ?_
      rotate_left
      · intro w hSw
        (try dsimp only at hSw)
        go_simp
        (try with_reducible rfl)
      (try simp only [Act.put, List.setIfInBounds_toArray, List.set_cons_zero, List.set_cons_succ, List.getElem_toArray, List.getElem_cons_succ, List.getElem_cons_zero])
      refine wpAnyH_done (by kernel_rfl) ?_ _
      go_wp2
      go_ret
      exact ⟨rfl, H.out.bel⟩
set_option maxHeartbeats 8000000 in
theorem walk (s0 : Cs.St) (op1 rd1 rn1 rm1 ra1 imm1 cond1 : Int) (wide1 : Bool) (a2 : Int) (w2 : (Lit.int .i64 a2).wf = true) (w : World) :
    Calls Try.prog 7 #[.agg (Cs.cells s0), .agg #[.int .i64 op1, .int .i64 rd1, .int .i64 rn1, .int .i64 rm1, .int .i64 ra1, .int .i64 imm1, .int .i64 cond1, .bool wide1], .int .i64 a2] w fun e w' => e = .returned (.bool true) ∧ Below w.heap.size w w' := by
  cases hB : Cs.stepB ⟨op1, rd1, rn1, rm1, ra1, imm1, cond1, wide1⟩
  · have h := Cs.stepB_no hB
    cases hc : (Th.check ⟨op1, rd1, rn1, rm1, ra1, imm1, cond1, wide1⟩ != 0)
    · rw [hc, Bool.false_or] at h
      exact keeps_n2 s0 op1 rd1 rn1 rm1 ra1 imm1 cond1 wide1 a2 w hB hc h
    · exact keeps_n1 s0 op1 rd1 rn1 rm1 ra1 imm1 cond1 wide1 a2 w hB hc
  by_cases h23 : op1 = 23
  · subst h23
    have hp := Cs.keeps_pc s0 a2 hB rfl rfl
    cases e0 : ((Cs.stepS s0 ⟨23, rd1, rn1, rm1, ra1, imm1, cond1, wide1⟩ a2).n == s0.n)
    · exact keeps_f0 s0 rd1 rn1 rm1 ra1 imm1 cond1 wide1 a2 w hB ⟨e0, hp⟩
    cases e1 : ((Cs.stepS s0 ⟨23, rd1, rn1, rm1, ra1, imm1, cond1, wide1⟩ a2).z == s0.z)
    · exact keeps_f1 s0 rd1 rn1 rm1 ra1 imm1 cond1 wide1 a2 w hB ⟨⟨e0, e1⟩, hp⟩
    cases e2 : ((Cs.stepS s0 ⟨23, rd1, rn1, rm1, ra1, imm1, cond1, wide1⟩ a2).c == s0.c)
    · exact keeps_f2 s0 rd1 rn1 rm1 ra1 imm1 cond1 wide1 a2 w hB ⟨⟨e0, e1, e2⟩, hp⟩
    cases e3 : ((Cs.stepS s0 ⟨23, rd1, rn1, rm1, ra1, imm1, cond1, wide1⟩ a2).v == s0.v)
    · exact keeps_f3 s0 rd1 rn1 rm1 ra1 imm1 cond1 wide1 a2 w hB ⟨⟨e0, e1, e2, e3⟩, hp⟩
    exact keeps_v1 s0 23 rd1 rn1 rm1 ra1 imm1 cond1 wide1 a2 w hB ⟨⟨by simpa using e0, by simpa using e1, by simpa using e2, by simpa using e3⟩, hp⟩
  have hF := Cs.keeps_flags s0 a2 hB (by simpa using h23)
  by_cases h24 : op1 = 24
  · subst h24
    cases hp : ((Cs.stepS s0 ⟨24, rd1, rn1, rm1, ra1, imm1, cond1, wide1⟩ a2).pc == Wd.add (Wd.wrap s0.pc) (Th.size ⟨24, rd1, rn1, rm1, ra1, imm1, cond1, wide1⟩))
    · exact keeps_v2 s0 rd1 rn1 rm1 ra1 imm1 cond1 wide1 a2 w hB ⟨hF, hp⟩
    · exact keeps_v1 s0 24 rd1 rn1 rm1 ra1 imm1 cond1 wide1 a2 w hB ⟨hF, by simpa using hp⟩
  by_cases h25 : op1 = 25
  · subst h25
    cases hp : ((Cs.stepS s0 ⟨25, rd1, rn1, rm1, ra1, imm1, cond1, wide1⟩ a2).pc == Wd.add (Wd.wrap s0.pc) (Th.size ⟨25, rd1, rn1, rm1, ra1, imm1, cond1, wide1⟩))
    · exact keeps_v3 s0 rd1 rn1 rm1 ra1 imm1 cond1 wide1 a2 w hB ⟨hF, hp⟩
    · exact keeps_v1 s0 25 rd1 rn1 rm1 ra1 imm1 cond1 wide1 a2 w hB ⟨hF, by simpa using hp⟩
  exact keeps_v1 s0 op1 rd1 rn1 rm1 ra1 imm1 cond1 wide1 a2 w hB ⟨hF, Cs.keeps_pc s0 a2 hB (by simpa using h24) (by simpa using h25)⟩

set_option maxRecDepth 100000 in
theorem lifted (os : Os) (started : os.Started) (H : Type) (enc : TypeId × Value → H) :
    ReturnsInHanded {} Try.checked os 7 .any (Rows.cpuKeepsSpec.pre6 enc Try.prog Try.f7 Rows.cpuKeepsRow.domain false) (Rows.cpuKeepsSpec.post enc Try.prog Try.f7 false true false false) := by
  refine returnsInHanded_of_change (C := Try.checked) own started (by kernel_rfl) Try.func7
    (ChangeSpec.witness6 (enc := enc) (C := Try.checked) false ⟨#[], #[.agg #[.int .i64 0, .int .i64 0, .int .i64 0, .int .i64 0, .int .i64 0, .int .i64 0, .int .i64 0, .int .i64 0, .int .i64 0, .int .i64 0, .int .i64 0, .int .i64 0, .int .i64 0, .int .i64 0, .int .i64 0, .int .i64 0, .bool false, .bool false, .bool false, .bool false], .agg #[.int .i64 0, .int .i64 0, .int .i64 0, .int .i64 0, .int .i64 0, .int .i64 0, .int .i64 0, .bool false], .int .i64 0], []⟩ 8 (by kernel_rfl) (by kernel_rfl) (by kernel_rfl) (by kernel_rfl)) ?_
  intro W base args ds gs before hval0 hW hcnd _
  have hval : ∀ (j : Nat) t v, Try.f7.params[j]? = some t → args[j]? = some v → Value.okWide Try.prog W .any base t v := hval0
  have hW' := hW
  obtain ⟨p, q, hA0, hV, rfl, hfz, hnd⟩ := hW
  have hA : DataW.TrodAll enc Try.prog W 0 (fun _ => true) true Try.f7.params.toList args.toList ds p := hA0
  rw [Try.params7] at hA hval
  obtain ⟨v0, vs0, d0, ds0, p0, q0, hargs, rfl, rfl, h0, r0⟩ := trodAll_cons hA
  obtain ⟨v1, vs1, d1, ds1, p1, q1, rfl, rfl, rfl, h1, r1⟩ := trodAll_cons r0
  obtain ⟨v2, vs2, d2, ds2, p2, q2, rfl, rfl, rfl, h2, r2⟩ := trodAll_cons r1
  obtain ⟨rfl, rfl, rfl⟩ := trodAll_nil r2
  obtain rfl : args = #[v0, v1, v2] := by cases args; simp_all
  obtain ⟨rfl, rfl⟩ := trodVars_none hV
  have k0 := h0
  have lt0 : ∀ x ∈ p0, x.block < W.heap.size := by obtain ⟨m, hm⟩ := k0; exact DataW.trod_lt m _ _ _ hm
  obtain ⟨s0, rfl⟩ := open_state (hval 0 24 v0 rfl rfl) h0
  have k1 := h1
  have lt1 : ∀ x ∈ p1, x.block < W.heap.size := by obtain ⟨m, hm⟩ := k1; exact DataW.trod_lt m _ _ _ hm
  obtain ⟨op1, rd1, rn1, rm1, ra1, imm1, cond1, wide1, rfl⟩ := open_ins (hval 1 26 v1 rfl rfl) h1
  obtain ⟨a2, rfl, rfl, rfl, w2⟩ := open_int Try.underlying3 (hval 2 3 v2 rfl rfl) h2
  clear hA0 hval0
  refine (walk s0 op1 rd1 rn1 rm1 ra1 imm1 cond1 wide1 a2 w2 W).mono fun e W' ⟨he, bel⟩ => ?_
  subst he
  exact ⟨_, rfl, _, _, _, [], _, [], hW', trodAll_mk1 (shut_bool Try.underlying4 _), (trodAll_cons_mk (Below.trod laidOut (by kernel_rfl) (of_decide_eq_true (by kernel_rfl)) k0 bel lt0) (trodAll_cons_mk (Below.trod laidOut (by kernel_rfl) (of_decide_eq_true (by kernel_rfl)) k1 bel lt1) (trodAll_cons_mk (shut_int Try.underlying3 w2) trodAll_mk0))), rfl, bel.frame _, fun h => by cases h⟩

theorem over : Rows.cpuKeepsRow.holds Try.pinned (OpenSpec.ofChange Rows.cpuKeepsSpec) :=
  OpenClaim.holds_of_wide 7 Try.f7 rfl rfl rfl rfl rfl rfl rfl ⟨rfl, rfl, rfl, rfl, rfl⟩ rfl rfl rfl rfl rfl (by kernel_rfl) Try.func7 (by kernel_rfl)
    (of_decide_eq_true (by kernel_rfl)) (by unfold Func.isWrapper; first | (rw [if_pos (by decide +kernel)]; kernel_rfl) | (rw [if_neg (by decide +kernel)]; exact ⟨rfl, rfl⟩))
    (fun os started H enc _ => lifted os started H enc)

/-- the statement -/
theorem proved : Rows.CpuKeepsSaid := over
#print axioms proved
end Go.Proofs.Ytennhpfhgbmnfaa.cpuKeeps
