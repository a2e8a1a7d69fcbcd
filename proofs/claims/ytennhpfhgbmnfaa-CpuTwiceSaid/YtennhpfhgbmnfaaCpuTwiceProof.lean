/-
  Law CpuTwice: What makes a register out of other ones alone (or a part of one, or flags, or is a store) makes the same when it is done again, and reads or writes the same.
  Conditions: none but those of the given row.
-/
import Derived.Test.YtennhpfhgbmnfaaRows
import Derived.Test.YtennhpfhgbmnfaaCpuP
import Derived.Test.YtennhpfhgbmnfaaCpuQ2
import Derived.WalkKit
import Derived.ProofKit
import Derived.OpenShut
import Derived.ShutString
import Derived.ChangeOld
import Derived.Below
import Derived.LoopN
import Derived.SizedLaws
namespace Go.Proofs.Ytennhpfhgbmnfaa.cpuTwice
open Go.ChangeShapes Go.WideShapes Go.ChangeAt Go.RowKit
open Go.ChangeMaps (open_string shut_string)
set_option linter.unusedVariables false
set_option linter.unusedSimpArgs false

theorem own : ownKnob Try.prog.godebug = none := by kernel_rfl
theorem laidOut : laidOutB Try.prog = true := by kernel_rfl

theorem cpu2_set {w W : World} {n : Nat} {s : Cs.St} {op rd rn rm ra imm cond : Int} {wide : Bool} (h : Cpu2 w n W s op rd rn rm ra imm cond wide) (a : Addr) (v : Value) (hn : n + 1 < a.block) : Cpu2 w n (W.setCell a v) s op rd rn rm ra imm cond wide :=
  ⟨h.st.other a v (by omega), h.ins.set a v (by omega), by have := h.lt; simpa using this, h.bel.setCell (by omega) v⟩
set_option maxHeartbeats 4000000 in
theorem other_any (op1 rd1 rn1 rm1 ra1 imm1 cond1 : Int) (wide1 : Bool) (w : World) :
    Calls Try.prog 19 #[.agg #[.int .i64 op1, .int .i64 rd1, .int .i64 rn1, .int .i64 rm1, .int .i64 ra1, .int .i64 imm1, .int .i64 cond1, .bool wide1]] w fun e w' => e = .returned (.bool (Cs.other op1 rd1 rn1 rm1 ra1)) ∧ Below w.heap.size w w' := by
  go_enter Try.func19, Try.ntmps19
  go_wp2
  all_goals
    go_ret
    refine ⟨ret_bool ?_, by go_grown⟩
    simp [Cs.other, *]
set_option maxHeartbeats 8000000 in
set_option maxRecDepth 100000 in
theorem twice_a (s0 : Cs.St) (op1 rd1 rn1 rm1 ra1 imm1 cond1 : Int) (wide1 : Bool) (a2 : Int) (w : World) (hz : (Th.check ⟨op1, rd1, rn1, rm1, ra1, imm1, cond1, wide1⟩ != 0) = true) :
    Calls Try.prog 6 #[.agg (Cs.cells s0), .agg #[.int .i64 op1, .int .i64 rd1, .int .i64 rn1, .int .i64 rm1, .int .i64 ra1, .int .i64 imm1, .int .i64 cond1, .bool wide1], .int .i64 a2] w fun e w' => e = .returned (.bool true) ∧ Below w.heap.size w w' := by
  have H := Lib.hid (Cpu2.new w s0 op1 rd1 rn1 rm1 ra1 imm1 cond1 wide1)
  go_enter Try.func6, Try.ntmps6
  go_wp2_with (first | go_skip | (go_at_call 18; refine (check_any _ _ _ _ _ _ _ _ _).mono ?_; rintro e w1 ⟨rfl, hb⟩; replace H := Lib.hid (H.out.kept hb); obtain ⟨i0, i1, i2, i3, i4, i5, i6, i7⟩ := H.out.ins; clear hb) | (go_at_call 11; refine (lives_any _).mono ?_; rintro e w5 ⟨rfl, hb⟩; replace H := Lib.hid (H.out.kept hb); clear hb))
  go_ret
  exact ⟨rfl, H.out.bel⟩
set_option maxHeartbeats 8000000 in
set_option maxRecDepth 100000 in
theorem twice_b (s0 : Cs.St) (op1 rd1 rn1 rm1 ra1 imm1 cond1 : Int) (wide1 : Bool) (a2 : Int) (w : World) (hz : (Th.check ⟨op1, rd1, rn1, rm1, ra1, imm1, cond1, wide1⟩ != 0) = false) (ho : Cs.other op1 rd1 rn1 rm1 ra1 = false) :
    Calls Try.prog 6 #[.agg (Cs.cells s0), .agg #[.int .i64 op1, .int .i64 rd1, .int .i64 rn1, .int .i64 rm1, .int .i64 ra1, .int .i64 imm1, .int .i64 cond1, .bool wide1], .int .i64 a2] w fun e w' => e = .returned (.bool true) ∧ Below w.heap.size w w' := by
  have H := Lib.hid (Cpu2.new w s0 op1 rd1 rn1 rm1 ra1 imm1 cond1 wide1)
  go_enter Try.func6, Try.ntmps6
  go_wp2_with (first | go_skip | (go_at_call 18; refine (check_any _ _ _ _ _ _ _ _ _).mono ?_; rintro e w1 ⟨rfl, hb⟩; replace H := Lib.hid (H.out.kept hb); obtain ⟨i0, i1, i2, i3, i4, i5, i6, i7⟩ := H.out.ins; clear hb) | (go_at_call 19; refine (other_any _ _ _ _ _ _ _ _ _).mono ?_; rintro e w1 ⟨rfl, hb⟩; replace H := Lib.hid (H.out.kept hb); obtain ⟨i0, i1, i2, i3, i4, i5, i6, i7⟩ := H.out.ins; clear hb) | (go_at_call 11; refine (lives_any _).mono ?_; rintro e w5 ⟨rfl, hb⟩; replace H := Lib.hid (H.out.kept hb); clear hb))
  go_ret
  exact ⟨rfl, H.out.bel⟩
set_option maxHeartbeats 8000000 in
set_option maxRecDepth 100000 in
theorem twice_c (s0 : Cs.St) (op1 rd1 rn1 rm1 ra1 imm1 cond1 : Int) (wide1 : Bool) (a2 : Int) (w : World) (hz : (Th.check ⟨op1, rd1, rn1, rm1, ra1, imm1, cond1, wide1⟩ != 0) = false) (ho : Cs.other op1 rd1 rn1 rm1 ra1 = true) :
    Calls Try.prog 6 #[.agg (Cs.cells s0), .agg #[.int .i64 op1, .int .i64 rd1, .int .i64 rn1, .int .i64 rm1, .int .i64 ra1, .int .i64 imm1, .int .i64 cond1, .bool wide1], .int .i64 a2] w fun e w' => e = .returned (.bool true) ∧ Below w.heap.size w w' := by
  have H := Lib.hid (Cpu2.new w s0 op1 rd1 rn1 rm1 ra1 imm1 cond1 wide1)
  have h0 : Th.check ⟨op1, rd1, rn1, rm1, ra1, imm1, cond1, wide1⟩ = 0 := beq_of_bnf hz
  have hB := Cs.other_B op1 rd1 rn1 rm1 ra1 imm1 cond1 wide1 h0 ho
  have hOps := Cs.other_ops op1 rd1 rn1 rm1 ra1 imm1 cond1 wide1 h0 ho
  have hUpc' := Cs.keeps_pc (Cs.stepS s0 ⟨op1, rd1, rn1, rm1, ra1, imm1, cond1, wide1⟩ a2) a2 hB hOps.2.1 hOps.2.2
  have hUT := Cs.step_twice s0 op1 rd1 rn1 rm1 ra1 imm1 cond1 wide1 a2 h0 ho
  have hAT := Cs.access_twice s0 op1 rd1 rn1 rm1 ra1 imm1 cond1 wide1 a2 h0 ho
  have C0 : Hid (∀ w : World, Calls Try.prog 9 #[.agg (Cs.cells s0), .agg #[.int .i64 op1, .int .i64 rd1, .int .i64 rn1, .int .i64 rm1, .int .i64 ra1, .int .i64 imm1, .int .i64 cond1, .bool wide1], .int .i64 a2] w fun e w' => e = .returned (.tuple #[.agg (Cs.cells (Cs.stepS s0 ⟨op1, rd1, rn1, rm1, ra1, imm1, cond1, wide1⟩ a2)), .bool true]) ∧ Below w.heap.size w w') := by
    refine Lib.hid fun w => ?_
    have h := step_any s0 op1 rd1 rn1 rm1 ra1 imm1 cond1 a2 wide1 w
    rw [hB] at h
    exact h
  have C1 : Hid (∀ (t : Cs.St) (w : World), Calls Try.prog 9 #[.agg (Cs.cells t), .agg #[.int .i64 op1, .int .i64 rd1, .int .i64 rn1, .int .i64 rm1, .int .i64 ra1, .int .i64 imm1, .int .i64 cond1, .bool wide1], .int .i64 a2] w fun e w' => e = .returned (.tuple #[.agg (Cs.cells (Cs.stepS t ⟨op1, rd1, rn1, rm1, ra1, imm1, cond1, wide1⟩ a2)), .bool true]) ∧ Below w.heap.size w w') := by
    refine Lib.hid fun t w => ?_
    have h := step_any t op1 rd1 rn1 rm1 ra1 imm1 cond1 a2 wide1 w
    rw [hB] at h
    exact h
  obtain ⟨T, hT⟩ : ∃ T, T = Cs.stepS s0 ⟨op1, rd1, rn1, rm1, ra1, imm1, cond1, wide1⟩ a2 := ⟨_, rfl⟩
  rw [← hT] at hUpc' hUT hAT C0
  obtain ⟨U, hU⟩ : ∃ U, U = Cs.stepS T ⟨op1, rd1, rn1, rm1, ra1, imm1, cond1, wide1⟩ a2 := ⟨_, rfl⟩
  rw [← hU] at hUpc' hUT
  have hUpc : Hid (U.pc = Wd.add (Wd.wrap T.pc) (Th.size ⟨op1, rd1, rn1, rm1, ra1, imm1, cond1, wide1⟩)) := Lib.hid hUpc'
  have C2 : Hid (∀ w : World, Calls Try.prog 9 #[.agg (Cs.cells T), .agg #[.int .i64 op1, .int .i64 rd1, .int .i64 rn1, .int .i64 rm1, .int .i64 ra1, .int .i64 imm1, .int .i64 cond1, .bool wide1], .int .i64 a2] w fun e w' => e = .returned (.tuple #[.agg (Cs.cells U), .bool true]) ∧ Below w.heap.size w w') := by
    refine Lib.hid fun w => ?_
    have h := C1.out T w
    rw [← hU] at h
    exact h
  have D0 : Hid (∀ w : World, Calls Try.prog 12 #[.agg (Cs.cells T), .agg #[.int .i64 op1, .int .i64 rd1, .int .i64 rn1, .int .i64 rm1, .int .i64 ra1, .int .i64 imm1, .int .i64 cond1, .bool wide1]] w fun e w' => e = .returned (.tuple #[.agg #[.int .i64 (Cs.access s0 ⟨op1, rd1, rn1, rm1, ra1, imm1, cond1, wide1⟩).addr, .int .i64 (Cs.access s0 ⟨op1, rd1, rn1, rm1, ra1, imm1, cond1, wide1⟩).size, .int .i64 (Cs.access s0 ⟨op1, rd1, rn1, rm1, ra1, imm1, cond1, wide1⟩).value, .bool (Cs.access s0 ⟨op1, rd1, rn1, rm1, ra1, imm1, cond1, wide1⟩).write], .bool (Cs.accessB ⟨op1, rd1, rn1, rm1, ra1, imm1, cond1, wide1⟩)]) ∧ Below w.heap.size w w') := by
    refine Lib.hid fun w => ?_
    have h := access_any T op1 rd1 rn1 rm1 ra1 imm1 cond1 wide1 w
    rw [hAT] at h
    exact h
  have D1 : Hid (∀ w : World, Calls Try.prog 12 #[.agg (Cs.cells s0), .agg #[.int .i64 op1, .int .i64 rd1, .int .i64 rn1, .int .i64 rm1, .int .i64 ra1, .int .i64 imm1, .int .i64 cond1, .bool wide1]] w fun e w' => e = .returned (.tuple #[.agg #[.int .i64 (Cs.access s0 ⟨op1, rd1, rn1, rm1, ra1, imm1, cond1, wide1⟩).addr, .int .i64 (Cs.access s0 ⟨op1, rd1, rn1, rm1, ra1, imm1, cond1, wide1⟩).size, .int .i64 (Cs.access s0 ⟨op1, rd1, rn1, rm1, ra1, imm1, cond1, wide1⟩).value, .bool (Cs.access s0 ⟨op1, rd1, rn1, rm1, ra1, imm1, cond1, wide1⟩).write], .bool (Cs.accessB ⟨op1, rd1, rn1, rm1, ra1, imm1, cond1, wide1⟩)]) ∧ Below w.heap.size w w') := Lib.hid fun w => access_any s0 op1 rd1 rn1 rm1 ra1 imm1 cond1 wide1 w
  have HUT := Lib.hid hUT
  have hand : ∀ x : Int, bits .and .i64 (IntKind.i64.wrap (T.pc + x)) 4294967295 = Wd.add (Wd.wrap T.pc) x := fun x => by rw [Wd.and_ones, IntKind.wrap_i64]; unfold Wd.add Wd.wrap; omega
  have hE := fun w => state_eq T w
  clear hUpc' hUT hAT C1 hB hOps h0 hT hU
  go_enter Try.func6, Try.ntmps6
  go_wp2_with (first | go_skip | ((with_reducible refine wpList_load_st H.out.st ?_ ?_); exact rfl) | ((with_reducible refine wpList_load_st TT.out ?_ ?_); exact rfl) | (go_at_call 18; refine (check_any _ _ _ _ _ _ _ _ _).mono ?_; rintro e w1 ⟨rfl, hb⟩; replace H := Lib.hid (H.out.kept hb); obtain ⟨i0, i1, i2, i3, i4, i5, i6, i7⟩ := H.out.ins; clear hb) | (go_at_call 19; refine (other_any _ _ _ _ _ _ _ _ _).mono ?_; rintro e w1 ⟨rfl, hb⟩; replace H := Lib.hid (H.out.kept hb); obtain ⟨i0, i1, i2, i3, i4, i5, i6, i7⟩ := H.out.ins; clear hb) | (go_at_call 9; (with_reducible refine (C0.out _).mono ?_); rintro e w1 ⟨rfl, hb⟩; replace H := Lib.hid (H.out.kept hb); obtain ⟨i0, i1, i2, i3, i4, i5, i6, i7⟩ := H.out.ins; clear hb) | (go_at_call 9; (with_reducible refine (C2.out _).mono ?_); rintro e w1 ⟨rfl, hb⟩; replace H := Lib.hid (H.out.kept hb); obtain ⟨i0, i1, i2, i3, i4, i5, i6, i7⟩ := H.out.ins; replace TT := Lib.hid (TT.out.below hb); clear hb) | ((with_reducible refine wpList_store_st (state_alloc_zero _) U ?_ ?_); exact rfl; rw [World.setRow_alloc_new]; have ltU := TT.out.lt; replace TT := Lib.hid (TT.out.alloc (.cells (Cs.cells U) 24)); replace H := Lib.hid (H.out.alloc (.cells (Cs.cells U) 24)); have TU := Lib.hid (state_alloc w1 U); generalize World.alloc w1 _ = W2 at *; generalize w1.heap.size = bTU at *; obtain ⟨i0, i1, i2, i3, i4, i5, i6, i7⟩ := H.out.ins) | ((with_reducible refine wpList_store_st (state_alloc_zero _) T ?_ ?_); exact rfl; rw [World.setRow_alloc_new]; have ltT := H.out.lt; replace H := Lib.hid (H.out.alloc (.cells (Cs.cells T) 24)); have TT := Lib.hid (state_alloc w1 T); generalize World.alloc w1 _ = W2 at *; generalize w1.heap.size = bTT at *; obtain ⟨i0, i1, i2, i3, i4, i5, i6, i7⟩ := H.out.ins))
  replace H := Lib.hid H.out.drew
  replace TT : Hid (StateAt _ bTT T) := Lib.hid (TT.out.below (Below.refl _ _).drew)
  replace TU : Hid (StateAt _ bTU U) := Lib.hid (TU.out.below (Below.refl _ _).drew)
  clear i0 i1 i2 i3 i4 i5 i6 i7
  have e15 : ∀ W, StateAt W bTU U → W.cell? ⟨bTU, 15, none⟩ = some (.int .i64 (Wd.add (Wd.wrap T.pc) (Th.size ⟨op1, rd1, rn1, rm1, ra1, imm1, cond1, wide1⟩))) := fun W h => by rw [← hUpc.out]; exact h.pc
  refine wp_region_held_drew (S := fun wx => wx.cell? ⟨bTU, 15, none⟩ = some (.int .i64 (Wd.add (Wd.wrap T.pc) (Th.size ⟨op1, rd1, rn1, rm1, ra1, imm1, cond1, wide1⟩))) ∧ wx.cell? ⟨bTT, 15, none⟩ = some (.int .i64 T.pc) ∧ InsAt wx (w.heap.size + 1) op1 rd1 rn1 rm1 ra1 imm1 cond1 wide1) (by kernel_rfl) (⟨e15 _ TU.out, TT.out.pc, H.out.ins⟩) (fun hHeld => ?_)
  refine wpAnyH_take (i := 0) (v := ?_) rfl (by kernel_rfl) (by kernel_rfl) (by kernel_rfl) (fun _ _ _ h => h) (Or.inl ⟨by rfl, ?_⟩) (by assumption) ?_
  rotate_left
  · intro w hSw
    (try dsimp only at hSw)
    go_simp
    (try with_reducible rfl)
  (try simp only [Act.put, List.setIfInBounds_toArray, List.set_cons_zero, List.set_cons_succ, List.getElem_toArray, List.getElem_cons_succ, List.getElem_cons_zero])
  refine wpAnyH_take (i := 1) (v := ?_) rfl (by kernel_rfl) (by kernel_rfl) (by kernel_rfl) (fun _ _ _ h => h) (Or.inl ⟨by rfl, ?_⟩) (by assumption) ?_
  rotate_left
  · intro w hSw
    (try dsimp only at hSw)
    go_simp
    (try with_reducible rfl)
  (try simp only [Act.put, List.setIfInBounds_toArray, List.set_cons_zero, List.set_cons_succ, List.getElem_toArray, List.getElem_cons_succ, List.getElem_cons_zero])
  refine wpAnyH_take (i := 2) (v := ?_) rfl (by kernel_rfl) (by kernel_rfl) (by kernel_rfl) (fun _ _ _ h => h) (Or.inl ⟨by rfl, ?_⟩) (by assumption) ?_
  rotate_left
  · intro w hSw
    (try dsimp only at hSw)
    go_simp
    (try with_reducible rfl)
  (try simp only [Act.put, List.setIfInBounds_toArray, List.set_cons_zero, List.set_cons_succ, List.getElem_toArray, List.getElem_cons_succ, List.getElem_cons_zero])
  refine wpAnyH_take (i := 3) (v := ?_) rfl (by kernel_rfl) (by kernel_rfl) (by kernel_rfl) (fun _ _ _ h => h) (Or.inl ⟨by rfl, ?_⟩) (by assumption) ?_
  rotate_left
  · intro w hSw
    (try dsimp only at hSw)
    go_simp
    (try with_reducible rfl)
  (try simp only [Act.put, List.setIfInBounds_toArray, List.set_cons_zero, List.set_cons_succ, List.getElem_toArray, List.getElem_cons_succ, List.getElem_cons_zero])
  refine wpAnyH_take (i := 4) (v := ?_) rfl (by kernel_rfl) (by kernel_rfl) (by kernel_rfl) (fun _ _ _ h => h) (Or.inl ⟨by rfl, ?_⟩) (by assumption) ?_
  rotate_left
  · intro w hSw
    (try dsimp only at hSw)
    go_simp
    (try with_reducible rfl)
  (try simp only [Act.put, List.setIfInBounds_toArray, List.set_cons_zero, List.set_cons_succ, List.getElem_toArray, List.getElem_cons_succ, List.getElem_cons_zero])
  refine wpAnyH_take (i := 5) (v := ?_) rfl (by kernel_rfl) (by kernel_rfl) (by kernel_rfl) (fun _ _ _ h => h) (Or.inl ⟨by rfl, ?_⟩) (by assumption) ?_
  rotate_left
  · intro w hSw
    (try dsimp only at hSw)
    go_simp
    (try with_reducible rfl)
  (try simp only [Act.put, List.setIfInBounds_toArray, List.set_cons_zero, List.set_cons_succ, List.getElem_toArray, List.getElem_cons_succ, List.getElem_cons_zero])
  refine wpAnyH_take (i := 6) (v := ?_) rfl (by kernel_rfl) (by kernel_rfl) (by kernel_rfl) (fun _ _ _ h => h) (Or.inl ⟨by rfl, ?_⟩) (by assumption) ?_
  rotate_left
  · intro w hSw
    (try dsimp only at hSw)
    go_simp
    (try with_reducible rfl)
  (try simp only [Act.put, List.setIfInBounds_toArray, List.set_cons_zero, List.set_cons_succ, List.getElem_toArray, List.getElem_cons_succ, List.getElem_cons_zero])
  refine wpAnyH_take (i := 7) (v := ?_) rfl (by kernel_rfl) (by kernel_rfl) (by kernel_rfl) (fun _ _ _ h => h) (Or.inl ⟨by rfl, ?_⟩) (by assumption) ?_
  rotate_left
  · intro w hSw
    (try dsimp only at hSw)
    go_simp
    (try with_reducible rfl)
  (try simp only [Act.put, List.setIfInBounds_toArray, List.set_cons_zero, List.set_cons_succ, List.getElem_toArray, List.getElem_cons_succ, List.getElem_cons_zero])
  refine wpAnyH_take (i := 8) (v := ?_) rfl (by kernel_rfl) (by kernel_rfl) (by kernel_rfl) (fun _ _ _ h => h) (Or.inl ⟨by rfl, ?_⟩) (by assumption) ?_
  rotate_left
  · intro w hSw
    (try dsimp only at hSw)
    go_simp
    (try with_reducible rfl)
  (try simp only [Act.put, List.setIfInBounds_toArray, List.set_cons_zero, List.set_cons_succ, List.getElem_toArray, List.getElem_cons_succ, List.getElem_cons_zero])
  refine wpAnyH_take (i := 9) (v := ?_) rfl (by kernel_rfl) (by kernel_rfl) (by kernel_rfl) (fun _ _ _ h => h) (Or.inl ⟨by rfl, ?_⟩) (by assumption) ?_
  rotate_left
  · intro w hSw
    (try dsimp only at hSw)
    go_simp
    (try with_reducible rfl)
  (try simp only [Act.put, List.setIfInBounds_toArray, List.set_cons_zero, List.set_cons_succ, List.getElem_toArray, List.getElem_cons_succ, List.getElem_cons_zero])
  refine wpAnyH_take (i := 10) (v := ?_) rfl (by kernel_rfl) (by kernel_rfl) (by kernel_rfl) (fun _ _ _ h => h) (Or.inl ⟨by rfl, ?_⟩) (by assumption) ?_
  rotate_left
  · intro w hSw
    (try dsimp only at hSw)
    go_simp
    (try with_reducible rfl)
  (try simp only [Act.put, List.setIfInBounds_toArray, List.set_cons_zero, List.set_cons_succ, List.getElem_toArray, List.getElem_cons_succ, List.getElem_cons_zero])
  refine wpAnyH_take (i := 11) (v := ?_) rfl (by kernel_rfl) (by kernel_rfl) (by kernel_rfl) (fun _ _ _ h => h) (Or.inl ⟨by rfl, ?_⟩) (by assumption) ?_
  rotate_left
  · intro w hSw
    (try dsimp only at hSw)
    go_simp
    (try with_reducible rfl)
  (try simp only [Act.put, List.setIfInBounds_toArray, List.set_cons_zero, List.set_cons_succ, List.getElem_toArray, List.getElem_cons_succ, List.getElem_cons_zero])
  refine wpAnyH_ready (rs := [12]) (by kernel_rfl) (by simp) ?_
  refine AllReadyH.cons rfl (fun K hK => ?_) AllReadyH.nil
  go_simp
  (go_at_call 20; refine (size_any _ _ _ _ _ _ _ _ _).mono ?_; rintro e w3 ⟨rfl, hb⟩; replace H := Lib.hid (H.out.kept hb); replace TT := Lib.hid (TT.out.below hb); replace TU := Lib.hid (TU.out.below hb); clear hb)
  refine hK.out _ _ (by exact ⟨e15 _ TU.out, TT.out.pc, H.out.ins⟩) (fun hHeld => ?_)
  clear hK K
  (try simp only [Act.put, List.setIfInBounds_toArray, List.set_cons_zero, List.set_cons_succ, List.getElem_toArray, List.getElem_cons_succ, List.getElem_cons_zero])
  refine wpAnyH_take (i := 13) (v := ?_) rfl (by kernel_rfl) (by kernel_rfl) (by kernel_rfl) (fun _ _ _ h => h) (Or.inl ⟨by rfl, ?_⟩) (by assumption) ?_
  rotate_left
  · intro w hSw
    (try dsimp only at hSw)
    go_simp
    (try with_reducible rfl)
  (try simp only [Act.put, List.setIfInBounds_toArray, List.set_cons_zero, List.set_cons_succ, List.getElem_toArray, List.getElem_cons_succ, List.getElem_cons_zero])
  refine wpAnyH_take (i := 14) (v := ?_) rfl (by kernel_rfl) (by kernel_rfl) (by kernel_rfl) (fun _ _ _ h => h) (Or.inl ⟨by rfl, ?_⟩) (by assumption) ?_
  rotate_left
  · intro w hSw
    (try dsimp only at hSw)
    go_simp
    (try with_reducible rfl)
  (try simp only [Act.put, List.setIfInBounds_toArray, List.set_cons_zero, List.set_cons_succ, List.getElem_toArray, List.getElem_cons_succ, List.getElem_cons_zero])
  refine wpAnyH_take (i := 15) (v := ?_) rfl (by kernel_rfl) (by kernel_rfl) (by kernel_rfl) (fun _ _ _ h => h) (Or.inl ⟨by rfl, ?_⟩) (by assumption) ?_
  rotate_left
  · intro w hSw
    (try dsimp only at hSw)
    go_simp
    (try with_reducible rfl)
  (try simp only [Act.put, List.setIfInBounds_toArray, List.set_cons_zero, List.set_cons_succ, List.getElem_toArray, List.getElem_cons_succ, List.getElem_cons_zero])
  refine wpAnyH_take (i := 16) (v := ?_) rfl (by kernel_rfl) (by kernel_rfl) (by kernel_rfl) (fun _ _ _ h => h) (Or.inl ⟨by rfl, ?_⟩) (by assumption) ?_
  rotate_left
  · intro w hSw
    (try dsimp only at hSw)
    go_simp
    (try with_reducible rfl)
  (try simp only [Act.put, List.setIfInBounds_toArray, List.set_cons_zero, List.set_cons_succ, List.getElem_toArray, List.getElem_cons_succ, List.getElem_cons_zero])
  refine wpAnyH_done (by kernel_rfl) ?_ _
  clear hHeld e15
  have H2 := Lib.hid (cpu2_set H.out ⟨bTU, 15, none⟩ (.int .i64 T.pc) (by show w.heap.size + 1 < bTU; omega))
  have TT2 := Lib.hid (TT.out.other ⟨bTU, 15, none⟩ (.int .i64 T.pc) (by show bTT ≠ bTU; omega))
  have e2 := TU.out.set 15 (.int .i64 T.pc) (Cs.cells_spc U T.pc)
  rw [HUT.out] at e2
  have TU2 := Lib.hid e2
  have tpc := TT.out.pc
  have upc := TU.out.pc
  have ufz := TU.out.open
  clear e2
  obtain ⟨i0, i1, i2, i3, i4, i5, i6, i7⟩ := H2.out.ins
  go_wp2_with (first | go_skip | ((with_reducible refine wpList_load_st H2.out.st ?_ ?_); exact rfl) | ((with_reducible refine wpList_load_st TT2.out ?_ ?_); exact rfl) | ((with_reducible refine wpList_load_st TU2.out ?_ ?_); exact rfl) | (go_at_call 12; first | ((with_reducible refine (D1.out _).mono ?_); rintro e w1 ⟨rfl, hb⟩; replace H2 := Lib.hid (H2.out.kept hb); replace TT2 := Lib.hid (TT2.out.below hb); replace TU2 := Lib.hid (TU2.out.below hb); (try replace A1 := Lib.hid (A1.out.below hb)); obtain ⟨i0, i1, i2, i3, i4, i5, i6, i7⟩ := H2.out.ins; clear hb) | ((with_reducible refine (D0.out _).mono ?_); rintro e w1 ⟨rfl, hb⟩; replace H2 := Lib.hid (H2.out.kept hb); replace TT2 := Lib.hid (TT2.out.below hb); replace TU2 := Lib.hid (TU2.out.below hb); (try replace A1 := Lib.hid (A1.out.below hb)); obtain ⟨i0, i1, i2, i3, i4, i5, i6, i7⟩ := H2.out.ins; clear hb)) | ((with_reducible refine wpList_store_acc (acc_alloc _ 0 0 0 false) (Cs.access s0 ⟨op1, rd1, rn1, rm1, ra1, imm1, cond1, wide1⟩).addr (Cs.access s0 ⟨op1, rd1, rn1, rm1, ra1, imm1, cond1, wide1⟩).size (Cs.access s0 ⟨op1, rd1, rn1, rm1, ra1, imm1, cond1, wide1⟩).value (Cs.access s0 ⟨op1, rd1, rn1, rm1, ra1, imm1, cond1, wide1⟩).write ?_ ?_); exact rfl; rw [World.setRow_alloc_new]; replace A1 := Lib.hid (A1.out.below ((Below.refl _ _).alloc (Nat.le_refl _) (.cells #[.int .i64 (Cs.access s0 ⟨op1, rd1, rn1, rm1, ra1, imm1, cond1, wide1⟩).addr, .int .i64 (Cs.access s0 ⟨op1, rd1, rn1, rm1, ra1, imm1, cond1, wide1⟩).size, .int .i64 (Cs.access s0 ⟨op1, rd1, rn1, rm1, ra1, imm1, cond1, wide1⟩).value, .bool (Cs.access s0 ⟨op1, rd1, rn1, rm1, ra1, imm1, cond1, wide1⟩).write] 32))); replace H2 := Lib.hid (H2.out.alloc (.cells #[.int .i64 (Cs.access s0 ⟨op1, rd1, rn1, rm1, ra1, imm1, cond1, wide1⟩).addr, .int .i64 (Cs.access s0 ⟨op1, rd1, rn1, rm1, ra1, imm1, cond1, wide1⟩).size, .int .i64 (Cs.access s0 ⟨op1, rd1, rn1, rm1, ra1, imm1, cond1, wide1⟩).value, .bool (Cs.access s0 ⟨op1, rd1, rn1, rm1, ra1, imm1, cond1, wide1⟩).write] 32)); replace TT2 := Lib.hid (TT2.out.alloc (.cells #[.int .i64 (Cs.access s0 ⟨op1, rd1, rn1, rm1, ra1, imm1, cond1, wide1⟩).addr, .int .i64 (Cs.access s0 ⟨op1, rd1, rn1, rm1, ra1, imm1, cond1, wide1⟩).size, .int .i64 (Cs.access s0 ⟨op1, rd1, rn1, rm1, ra1, imm1, cond1, wide1⟩).value, .bool (Cs.access s0 ⟨op1, rd1, rn1, rm1, ra1, imm1, cond1, wide1⟩).write] 32)); replace TU2 := Lib.hid (TU2.out.alloc (.cells #[.int .i64 (Cs.access s0 ⟨op1, rd1, rn1, rm1, ra1, imm1, cond1, wide1⟩).addr, .int .i64 (Cs.access s0 ⟨op1, rd1, rn1, rm1, ra1, imm1, cond1, wide1⟩).size, .int .i64 (Cs.access s0 ⟨op1, rd1, rn1, rm1, ra1, imm1, cond1, wide1⟩).value, .bool (Cs.access s0 ⟨op1, rd1, rn1, rm1, ra1, imm1, cond1, wide1⟩).write] 32)); have A2 := Lib.hid (acc_alloc w1 (Cs.access s0 ⟨op1, rd1, rn1, rm1, ra1, imm1, cond1, wide1⟩).addr (Cs.access s0 ⟨op1, rd1, rn1, rm1, ra1, imm1, cond1, wide1⟩).size (Cs.access s0 ⟨op1, rd1, rn1, rm1, ra1, imm1, cond1, wide1⟩).value (Cs.access s0 ⟨op1, rd1, rn1, rm1, ra1, imm1, cond1, wide1⟩).write); generalize World.alloc w1 _ = W2 at *; generalize w1.heap.size = b2 at *; obtain ⟨i0, i1, i2, i3, i4, i5, i6, i7⟩ := H2.out.ins; have a0 := A1.out.c0; have a1 := A1.out.c1; have a2 := A1.out.c2; have a3 := A1.out.c3; have c0 := A2.out.c0; have c1 := A2.out.c1; have c2 := A2.out.c2; have c3 := A2.out.c3) | ((with_reducible refine wpList_store_acc (acc_alloc _ 0 0 0 false) (Cs.access s0 ⟨op1, rd1, rn1, rm1, ra1, imm1, cond1, wide1⟩).addr (Cs.access s0 ⟨op1, rd1, rn1, rm1, ra1, imm1, cond1, wide1⟩).size (Cs.access s0 ⟨op1, rd1, rn1, rm1, ra1, imm1, cond1, wide1⟩).value (Cs.access s0 ⟨op1, rd1, rn1, rm1, ra1, imm1, cond1, wide1⟩).write ?_ ?_); exact rfl; rw [World.setRow_alloc_new]; replace H2 := Lib.hid (H2.out.alloc (.cells #[.int .i64 (Cs.access s0 ⟨op1, rd1, rn1, rm1, ra1, imm1, cond1, wide1⟩).addr, .int .i64 (Cs.access s0 ⟨op1, rd1, rn1, rm1, ra1, imm1, cond1, wide1⟩).size, .int .i64 (Cs.access s0 ⟨op1, rd1, rn1, rm1, ra1, imm1, cond1, wide1⟩).value, .bool (Cs.access s0 ⟨op1, rd1, rn1, rm1, ra1, imm1, cond1, wide1⟩).write] 32)); replace TT2 := Lib.hid (TT2.out.alloc (.cells #[.int .i64 (Cs.access s0 ⟨op1, rd1, rn1, rm1, ra1, imm1, cond1, wide1⟩).addr, .int .i64 (Cs.access s0 ⟨op1, rd1, rn1, rm1, ra1, imm1, cond1, wide1⟩).size, .int .i64 (Cs.access s0 ⟨op1, rd1, rn1, rm1, ra1, imm1, cond1, wide1⟩).value, .bool (Cs.access s0 ⟨op1, rd1, rn1, rm1, ra1, imm1, cond1, wide1⟩).write] 32)); replace TU2 := Lib.hid (TU2.out.alloc (.cells #[.int .i64 (Cs.access s0 ⟨op1, rd1, rn1, rm1, ra1, imm1, cond1, wide1⟩).addr, .int .i64 (Cs.access s0 ⟨op1, rd1, rn1, rm1, ra1, imm1, cond1, wide1⟩).size, .int .i64 (Cs.access s0 ⟨op1, rd1, rn1, rm1, ra1, imm1, cond1, wide1⟩).value, .bool (Cs.access s0 ⟨op1, rd1, rn1, rm1, ra1, imm1, cond1, wide1⟩).write] 32)); have A1 := Lib.hid (acc_alloc w1 (Cs.access s0 ⟨op1, rd1, rn1, rm1, ra1, imm1, cond1, wide1⟩).addr (Cs.access s0 ⟨op1, rd1, rn1, rm1, ra1, imm1, cond1, wide1⟩).size (Cs.access s0 ⟨op1, rd1, rn1, rm1, ra1, imm1, cond1, wide1⟩).value (Cs.access s0 ⟨op1, rd1, rn1, rm1, ra1, imm1, cond1, wide1⟩).write); generalize World.alloc w1 _ = W2 at *; generalize w1.heap.size = b1 at *; obtain ⟨i0, i1, i2, i3, i4, i5, i6, i7⟩ := H2.out.ins) | ((with_reducible refine wpList_take ?_ ?_); exact rfl; intro _ _) | (go_at_call 11; refine (lives_any _).mono ?_; rintro e w5 ⟨rfl, hb⟩; replace H2 := Lib.hid (H2.out.kept hb); clear hb))
  go_ret
  exact ⟨rfl, H2.out.bel⟩
set_option maxHeartbeats 8000000 in
theorem walk (s0 : Cs.St) (op1 rd1 rn1 rm1 ra1 imm1 cond1 : Int) (wide1 : Bool) (a2 : Int) (w2 : (Lit.int .i64 a2).wf = true) (w : World) :
    Calls Try.prog 6 #[.agg (Cs.cells s0), .agg #[.int .i64 op1, .int .i64 rd1, .int .i64 rn1, .int .i64 rm1, .int .i64 ra1, .int .i64 imm1, .int .i64 cond1, .bool wide1], .int .i64 a2] w fun e w' => e = .returned (.bool true) ∧ Below w.heap.size w w' := by
  cases hz : (Th.check ⟨op1, rd1, rn1, rm1, ra1, imm1, cond1, wide1⟩ != 0)
  · cases ho : Cs.other op1 rd1 rn1 rm1 ra1
    · exact twice_b s0 op1 rd1 rn1 rm1 ra1 imm1 cond1 wide1 a2 w hz ho
    · exact twice_c s0 op1 rd1 rn1 rm1 ra1 imm1 cond1 wide1 a2 w hz ho
  · exact twice_a s0 op1 rd1 rn1 rm1 ra1 imm1 cond1 wide1 a2 w hz

set_option maxRecDepth 100000 in
theorem lifted (os : Os) (started : os.Started) (H : Type) (enc : TypeId × Value → H) :
    ReturnsInHanded {} Try.checked os 6 .any (Rows.cpuTwiceSpec.pre6 enc Try.prog Try.f6 Rows.cpuTwiceRow.domain false) (Rows.cpuTwiceSpec.post enc Try.prog Try.f6 false true false false) := by
  refine returnsInHanded_of_change (C := Try.checked) own started (by kernel_rfl) Try.func6
    (ChangeSpec.witness6 (enc := enc) (C := Try.checked) false ⟨#[], #[.agg #[.int .i64 0, .int .i64 0, .int .i64 0, .int .i64 0, .int .i64 0, .int .i64 0, .int .i64 0, .int .i64 0, .int .i64 0, .int .i64 0, .int .i64 0, .int .i64 0, .int .i64 0, .int .i64 0, .int .i64 0, .int .i64 0, .bool false, .bool false, .bool false, .bool false], .agg #[.int .i64 0, .int .i64 0, .int .i64 0, .int .i64 0, .int .i64 0, .int .i64 0, .int .i64 0, .bool false], .int .i64 0], []⟩ 8 (by kernel_rfl) (by kernel_rfl) (by kernel_rfl) (by kernel_rfl)) ?_
  intro W base args ds gs before hval0 hW hcnd _
  have hval : ∀ (j : Nat) t v, Try.f6.params[j]? = some t → args[j]? = some v → Value.okWide Try.prog W .any base t v := hval0
  have hW' := hW
  obtain ⟨p, q, hA0, hV, rfl, hfz, hnd⟩ := hW
  have hA : DataW.TrodAll enc Try.prog W 0 (fun _ => true) true Try.f6.params.toList args.toList ds p := hA0
  rw [Try.params6] at hA hval
  obtain ⟨v0, vs0, d0, ds0, p0, q0, hargs, rfl, rfl, h0, r0⟩ := trodAll_cons hA
  obtain ⟨v1, vs1, d1, ds1, p1, q1, rfl, rfl, rfl, h1, r1⟩ := trodAll_cons r0
  obtain ⟨v2, vs2, d2, ds2, p2, q2, rfl, rfl, rfl, h2, r2⟩ := trodAll_cons r1
  obtain ⟨rfl, rfl, rfl⟩ := trodAll_nil r2
  obtain rfl : args = #[v0, v1, v2] := by cases args; simp_all
  obtain ⟨rfl, rfl⟩ := trodVars_none hV
  have k0 := h0
  have lt0 : ∀ x ∈ p0, x.block < W.heap.size := by obtain ⟨m, hm⟩ := k0; exact DataW.trod_lt m _ _ _ hm
  obtain ⟨s0, rfl⟩ := open_state (hval 0 24 v0 rfl rfl) h0
  have k1 := h1
  have lt1 : ∀ x ∈ p1, x.block < W.heap.size := by obtain ⟨m, hm⟩ := k1; exact DataW.trod_lt m _ _ _ hm
  obtain ⟨op1, rd1, rn1, rm1, ra1, imm1, cond1, wide1, rfl⟩ := open_ins (hval 1 26 v1 rfl rfl) h1
  obtain ⟨a2, rfl, rfl, rfl, w2⟩ := open_int Try.underlying3 (hval 2 3 v2 rfl rfl) h2
  clear hA0 hval0
  refine (walk s0 op1 rd1 rn1 rm1 ra1 imm1 cond1 wide1 a2 w2 W).mono fun e W' ⟨he, bel⟩ => ?_
  subst he
  exact ⟨_, rfl, _, _, _, [], _, [], hW', trodAll_mk1 (shut_bool Try.underlying4 _), (trodAll_cons_mk (Below.trod laidOut (by kernel_rfl) (of_decide_eq_true (by kernel_rfl)) k0 bel lt0) (trodAll_cons_mk (Below.trod laidOut (by kernel_rfl) (of_decide_eq_true (by kernel_rfl)) k1 bel lt1) (trodAll_cons_mk (shut_int Try.underlying3 w2) trodAll_mk0))), rfl, bel.frame _, fun h => by cases h⟩

theorem over : Rows.cpuTwiceRow.holds Try.pinned (OpenSpec.ofChange Rows.cpuTwiceSpec) :=
  OpenClaim.holds_of_wide 6 Try.f6 rfl rfl rfl rfl rfl rfl rfl ⟨rfl, rfl, rfl, rfl, rfl⟩ rfl rfl rfl rfl rfl (by kernel_rfl) Try.func6 (by kernel_rfl)
    (of_decide_eq_true (by kernel_rfl)) (by unfold Func.isWrapper; first | (rw [if_pos (by decide +kernel)]; kernel_rfl) | (rw [if_neg (by decide +kernel)]; exact ⟨rfl, rfl⟩))
    (fun os started H enc _ => lifted os started H enc)

/-- the statement -/
theorem proved : Rows.CpuTwiceSaid := over
#print axioms proved
end Go.Proofs.Ytennhpfhgbmnfaa.cpuTwice
