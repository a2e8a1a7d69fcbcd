/-
What made of package cpu returns, operation by operation, part 2.
What made of package cpu returns, operation by operation, part 1.
Package memory: the memory as it lies in the world; what asked and Region return.
Plain mathematics of bytes as instructions: what the calls of package decode tell, as functions on numbers. It names nothing of the translated program.
-/
import Derived.Test.YthciobjklhkkcaaGreatP05b
section
namespace Go.Proofs.YthciobjklhkkcaaGreat
open Go.ChangeShapes Go.WideShapes Go.ChangeAt Go.RowKit
set_option linter.unusedVariables false
set_option linter.unusedSimpArgs false
set_option maxHeartbeats 2000000
set_option maxRecDepth 10000

theorem made_9 (s : Cs.St) (rd rn rm : Nat) (ra imm cond l : Int) (wide : Bool) (w : World) (hd : rd < 13) (hn : rn < 13) (hm : rm < 13) (hw : ∀ j, 0 ≤ s.r j ∧ s.r j < 4294967296) :
  Calls Tryz.prog 117 #[.agg (Cs.cells s), .agg #[.int .i64 9, .int .i64 (rd : Int), .int .i64 (rn : Int), .int .i64 (rm : Int), .int .i64 ra, .int .i64 imm, .int .i64 cond, .bool wide], .int .i64 l] w fun e w' => e = .returned (.agg (Cs.cells (Cs.made s ⟨9, rd, rn, rm, ra, imm, cond, wide⟩ l))) ∧ Below w.heap.size w w' := by
 obtain ⟨gd, bd, bd0⟩ := Cs.idx s rd hd
 obtain ⟨gn, bn, bn0⟩ := Cs.idx s rn hn
 obtain ⟨gm, bm, bm0⟩ := Cs.idx s rm hm
 go_enter Tryz.func117, Tryz.ntmps117
 go_wp2_with fail
 go_quiet (fail)
 have H := Lib.hid (Cpu3.newN w nq s 9 rd rn rm ra imm cond wide)
 generalize World.drewN _ nq = W at *
 clear gd gn gm
 obtain ⟨i0, i1, i2, i3, i4, i5, i6, i7⟩ := H.out.ins
 have c1 := H.out.st.reg rd (by omega)
 have fz := H.out.st.open
 go_wp2_with fail
 go_still_tail 6, (by kernel_rfl)
 still_call (still (not_any _ _))
 repeat still_step
 try refine wpStill_nil ?_
 change wpList _ _ _ _ _ W.drew
 replace H := Lib.hid H.out.drew
 clear i0 i1 i2 i3 i4 i5 i6 i7 c1 fz
 generalize W.drew = V at *
 have c1 := H.out.st.reg rd (by omega)
 have fz := H.out.st.open
 go_wp2_with (first | ((with_reducible refine wpList_load_st (H.out.reg rd hd _).st ?_ ?_); exact rfl) | ((with_reducible apply wpList_store_st (H.out.reg rd hd _).res); exact rfl))
 try simp only [Exit.inBlock, Exit.then]
 refine bp_state rfl rfl ((H.out.reg rd hd _).res.setRow _) rfl ⟨rfl, (H.out.reg rd hd _).end _⟩

theorem made_10 (s : Cs.St) (rd rn rm : Nat) (ra imm cond l : Int) (wide : Bool) (w : World) (hd : rd < 13) (hn : rn < 13) (hm : rm < 13) (hw : ∀ j, 0 ≤ s.r j ∧ s.r j < 4294967296) :
  Calls Tryz.prog 117 #[.agg (Cs.cells s), .agg #[.int .i64 10, .int .i64 (rd : Int), .int .i64 (rn : Int), .int .i64 (rm : Int), .int .i64 ra, .int .i64 imm, .int .i64 cond, .bool wide], .int .i64 l] w fun e w' => e = .returned (.agg (Cs.cells (Cs.made s ⟨10, rd, rn, rm, ra, imm, cond, wide⟩ l))) ∧ Below w.heap.size w w' := by
 obtain ⟨gd, bd, bd0⟩ := Cs.idx s rd hd
 obtain ⟨gn, bn, bn0⟩ := Cs.idx s rn hn
 obtain ⟨gm, bm, bm0⟩ := Cs.idx s rm hm
 go_enter Tryz.func117, Tryz.ntmps117
 go_wp2_with fail
 go_quiet (fail)
 have H := Lib.hid (Cpu3.newN w nq s 10 rd rn rm ra imm cond wide)
 generalize World.drewN _ nq = W at *
 clear gd gn gm
 obtain ⟨i0, i1, i2, i3, i4, i5, i6, i7⟩ := H.out.ins
 have c1 := H.out.st.reg rd (by omega)
 have fz := H.out.st.open
 go_wp2_with fail
 go_still_tail 9, (by kernel_rfl)
 still_call (still (joined_any _ _ _ _))
 repeat still_step
 try refine wpStill_nil ?_
 change wpList _ _ _ _ _ W.drew
 replace H := Lib.hid H.out.drew
 clear i0 i1 i2 i3 i4 i5 i6 i7 c1 fz
 generalize W.drew = V at *
 have c1 := H.out.st.reg rd (by omega)
 have fz := H.out.st.open
 go_wp2_with (first | ((with_reducible refine wpList_load_st (H.out.reg rd hd _).st ?_ ?_); exact rfl) | ((with_reducible apply wpList_store_st (H.out.reg rd hd _).res); exact rfl))
 try simp only [Exit.inBlock, Exit.then]
 refine bp_state rfl rfl ((H.out.reg rd hd _).res.setRow _) rfl ⟨rfl, (H.out.reg rd hd _).end _⟩

theorem made_11 (s : Cs.St) (rd rn rm : Nat) (ra imm cond l : Int) (wide : Bool) (w : World) (hd : rd < 13) (hn : rn < 13) (hm : rm < 13) (hw : ∀ j, 0 ≤ s.r j ∧ s.r j < 4294967296) :
  Calls Tryz.prog 117 #[.agg (Cs.cells s), .agg #[.int .i64 11, .int .i64 (rd : Int), .int .i64 (rn : Int), .int .i64 (rm : Int), .int .i64 ra, .int .i64 imm, .int .i64 cond, .bool wide], .int .i64 l] w fun e w' => e = .returned (.agg (Cs.cells (Cs.made s ⟨11, rd, rn, rm, ra, imm, cond, wide⟩ l))) ∧ Below w.heap.size w w' := by
 obtain ⟨gd, bd, bd0⟩ := Cs.idx s rd hd
 obtain ⟨gn, bn, bn0⟩ := Cs.idx s rn hn
 obtain ⟨gm, bm, bm0⟩ := Cs.idx s rm hm
 go_enter Tryz.func117, Tryz.ntmps117
 go_wp2_with fail
 go_quiet (fail)
 have H := Lib.hid (Cpu3.newN w nq s 11 rd rn rm ra imm cond wide)
 generalize World.drewN _ nq = W at *
 clear gd gn gm
 obtain ⟨i0, i1, i2, i3, i4, i5, i6, i7⟩ := H.out.ins
 have c1 := H.out.st.reg rd (by omega)
 have fz := H.out.st.open
 go_wp2_with fail
 go_still_tail 9, (by kernel_rfl)
 still_call (still (joined_any _ _ _ _))
 repeat still_step
 try refine wpStill_nil ?_
 change wpList _ _ _ _ _ W.drew
 replace H := Lib.hid H.out.drew
 clear i0 i1 i2 i3 i4 i5 i6 i7 c1 fz
 generalize W.drew = V at *
 have c1 := H.out.st.reg rd (by omega)
 have fz := H.out.st.open
 go_wp2_with (first | ((with_reducible refine wpList_load_st (H.out.reg rd hd _).st ?_ ?_); exact rfl) | ((with_reducible apply wpList_store_st (H.out.reg rd hd _).res); exact rfl))
 try simp only [Exit.inBlock, Exit.then]
 refine bp_state rfl rfl ((H.out.reg rd hd _).res.setRow _) rfl ⟨rfl, (H.out.reg rd hd _).end _⟩

theorem made_12 (s : Cs.St) (rd rn rm : Nat) (ra imm cond l : Int) (wide : Bool) (w : World) (hd : rd < 13) (hn : rn < 13) (hm : rm < 13) (hw : ∀ j, 0 ≤ s.r j ∧ s.r j < 4294967296) :
  Calls Tryz.prog 117 #[.agg (Cs.cells s), .agg #[.int .i64 12, .int .i64 (rd : Int), .int .i64 (rn : Int), .int .i64 (rm : Int), .int .i64 ra, .int .i64 imm, .int .i64 cond, .bool wide], .int .i64 l] w fun e w' => e = .returned (.agg (Cs.cells (Cs.made s ⟨12, rd, rn, rm, ra, imm, cond, wide⟩ l))) ∧ Below w.heap.size w w' := by
 obtain ⟨gd, bd, bd0⟩ := Cs.idx s rd hd
 obtain ⟨gn, bn, bn0⟩ := Cs.idx s rn hn
 obtain ⟨gm, bm, bm0⟩ := Cs.idx s rm hm
 go_enter Tryz.func117, Tryz.ntmps117
 go_wp2_with fail
 go_quiet (fail)
 have H := Lib.hid (Cpu3.newN w nq s 12 rd rn rm ra imm cond wide)
 generalize World.drewN _ nq = W at *
 clear gd gn gm
 obtain ⟨i0, i1, i2, i3, i4, i5, i6, i7⟩ := H.out.ins
 have c1 := H.out.st.reg rd (by omega)
 have fz := H.out.st.open
 go_wp2_with fail
 go_still_tail 9, (by kernel_rfl)
 still_call (still (joined_any _ _ _ _))
 repeat still_step
 try refine wpStill_nil ?_
 change wpList _ _ _ _ _ W.drew
 replace H := Lib.hid H.out.drew
 clear i0 i1 i2 i3 i4 i5 i6 i7 c1 fz
 generalize W.drew = V at *
 have c1 := H.out.st.reg rd (by omega)
 have fz := H.out.st.open
 go_wp2_with (first | ((with_reducible refine wpList_load_st (H.out.reg rd hd _).st ?_ ?_); exact rfl) | ((with_reducible apply wpList_store_st (H.out.reg rd hd _).res); exact rfl))
 try simp only [Exit.inBlock, Exit.then]
 refine bp_state rfl rfl ((H.out.reg rd hd _).res.setRow _) rfl ⟨rfl, (H.out.reg rd hd _).end _⟩

theorem made_13 (s : Cs.St) (rd rn rm : Nat) (ra imm cond l : Int) (wide : Bool) (w : World) (hd : rd < 13) (hn : rn < 13) (hm : rm < 13) (hw : ∀ j, 0 ≤ s.r j ∧ s.r j < 4294967296) :
  Calls Tryz.prog 117 #[.agg (Cs.cells s), .agg #[.int .i64 13, .int .i64 (rd : Int), .int .i64 (rn : Int), .int .i64 (rm : Int), .int .i64 ra, .int .i64 imm, .int .i64 cond, .bool wide], .int .i64 l] w fun e w' => e = .returned (.agg (Cs.cells (Cs.made s ⟨13, rd, rn, rm, ra, imm, cond, wide⟩ l))) ∧ Below w.heap.size w w' := by
 obtain ⟨gd, bd, bd0⟩ := Cs.idx s rd hd
 obtain ⟨gn, bn, bn0⟩ := Cs.idx s rn hn
 obtain ⟨gm, bm, bm0⟩ := Cs.idx s rm hm
 go_enter Tryz.func117, Tryz.ntmps117
 go_wp2_with fail
 go_quiet (fail)
 have H := Lib.hid (Cpu3.newN w nq s 13 rd rn rm ra imm cond wide)
 generalize World.drewN _ nq = W at *
 clear gd gn gm
 obtain ⟨i0, i1, i2, i3, i4, i5, i6, i7⟩ := H.out.ins
 have c1 := H.out.st.reg rd (by omega)
 have fz := H.out.st.open
 go_wp2_with fail
 go_still_tail 9, (by kernel_rfl)
 still_call (still (joined_any _ _ _ _))
 repeat still_step
 try refine wpStill_nil ?_
 change wpList _ _ _ _ _ W.drew
 replace H := Lib.hid H.out.drew
 clear i0 i1 i2 i3 i4 i5 i6 i7 c1 fz
 generalize W.drew = V at *
 have c1 := H.out.st.reg rd (by omega)
 have fz := H.out.st.open
 go_wp2_with (first | ((with_reducible refine wpList_load_st (H.out.reg rd hd _).st ?_ ?_); exact rfl) | ((with_reducible apply wpList_store_st (H.out.reg rd hd _).res); exact rfl))
 try simp only [Exit.inBlock, Exit.then]
 refine bp_state rfl rfl ((H.out.reg rd hd _).res.setRow _) rfl ⟨rfl, (H.out.reg rd hd _).end _⟩

theorem made_14 (s : Cs.St) (rd rn rm : Nat) (ra imm cond l : Int) (wide : Bool) (w : World) (hd : rd < 13) (hn : rn < 13) (hm : rm < 13) (hw : ∀ j, 0 ≤ s.r j ∧ s.r j < 4294967296) :
  Calls Tryz.prog 117 #[.agg (Cs.cells s), .agg #[.int .i64 14, .int .i64 (rd : Int), .int .i64 (rn : Int), .int .i64 (rm : Int), .int .i64 ra, .int .i64 imm, .int .i64 cond, .bool wide], .int .i64 l] w fun e w' => e = .returned (.agg (Cs.cells (Cs.made s ⟨14, rd, rn, rm, ra, imm, cond, wide⟩ l))) ∧ Below w.heap.size w w' := by
 obtain ⟨gd, bd, bd0⟩ := Cs.idx s rd hd
 obtain ⟨gn, bn, bn0⟩ := Cs.idx s rn hn
 obtain ⟨gm, bm, bm0⟩ := Cs.idx s rm hm
 go_enter Tryz.func117, Tryz.ntmps117
 go_wp2_with fail
 go_quiet (fail)
 have H := Lib.hid (Cpu3.newN w nq s 14 rd rn rm ra imm cond wide)
 generalize World.drewN _ nq = W at *
 clear gd gn gm
 obtain ⟨i0, i1, i2, i3, i4, i5, i6, i7⟩ := H.out.ins
 have c1 := H.out.st.reg rd (by omega)
 have fz := H.out.st.open
 go_wp2_with fail
 go_still_tail 9, (by kernel_rfl)
 still_call (still (joined_any _ _ _ _))
 repeat still_step
 try refine wpStill_nil ?_
 change wpList _ _ _ _ _ W.drew
 replace H := Lib.hid H.out.drew
 clear i0 i1 i2 i3 i4 i5 i6 i7 c1 fz
 generalize W.drew = V at *
 have c1 := H.out.st.reg rd (by omega)
 have fz := H.out.st.open
 go_wp2_with (first | ((with_reducible refine wpList_load_st (H.out.reg rd hd _).st ?_ ?_); exact rfl) | ((with_reducible apply wpList_store_st (H.out.reg rd hd _).res); exact rfl))
 try simp only [Exit.inBlock, Exit.then]
 refine bp_state rfl rfl ((H.out.reg rd hd _).res.setRow _) rfl ⟨rfl, (H.out.reg rd hd _).end _⟩

end Go.Proofs.YthciobjklhkkcaaGreat
end
section
namespace Go.Proofs.YthciobjklhkkcaaGreat
open Go.ChangeShapes Go.WideShapes Go.ChangeAt Go.RowKit
set_option linter.unusedVariables false
set_option linter.unusedSimpArgs false
set_option maxHeartbeats 2000000
set_option maxRecDepth 10000

theorem made_3 (s : Cs.St) (rd rn rm : Nat) (ra imm cond l : Int) (wide : Bool) (w : World) (hd : rd < 13) (hn : rn < 13) (hm : rm < 13) (hw : ∀ j, 0 ≤ s.r j ∧ s.r j < 4294967296) :
  Calls Tryz.prog 117 #[.agg (Cs.cells s), .agg #[.int .i64 3, .int .i64 (rd : Int), .int .i64 (rn : Int), .int .i64 (rm : Int), .int .i64 ra, .int .i64 imm, .int .i64 cond, .bool wide], .int .i64 l] w fun e w' => e = .returned (.agg (Cs.cells (Cs.made s ⟨3, rd, rn, rm, ra, imm, cond, wide⟩ l))) ∧ Below w.heap.size w w' := by
 obtain ⟨gd, bd, bd0⟩ := Cs.idx s rd hd
 obtain ⟨gn, bn, bn0⟩ := Cs.idx s rn hn
 obtain ⟨gm, bm, bm0⟩ := Cs.idx s rm hm
 go_enter Tryz.func117, Tryz.ntmps117
 go_wp2_with fail
 go_quiet (fail)
 have H := Lib.hid (Cpu3.newN w nq s 3 rd rn rm ra imm cond wide)
 generalize World.drewN _ nq = W at *
 clear gd gn gm
 obtain ⟨i0, i1, i2, i3, i4, i5, i6, i7⟩ := H.out.ins
 have c1 := H.out.st.reg rd (by omega)
 have fz := H.out.st.open
 go_wp2_with (first | ((with_reducible refine wpList_load_st (H.out.reg rd hd _).st ?_ ?_); exact rfl) | ((with_reducible apply wpList_store_st (H.out.reg rd hd _).res); exact rfl))
 try simp only [Exit.inBlock, Exit.then]
 refine bp_state rfl rfl ((H.out.reg rd hd _).res.setRow _) rfl ⟨rfl, (H.out.reg rd hd _).end _⟩

theorem made_4 (s : Cs.St) (rd rn rm : Nat) (ra imm cond l : Int) (wide : Bool) (w : World) (hd : rd < 13) (hn : rn < 13) (hm : rm < 13) (hw : ∀ j, 0 ≤ s.r j ∧ s.r j < 4294967296) :
  Calls Tryz.prog 117 #[.agg (Cs.cells s), .agg #[.int .i64 4, .int .i64 (rd : Int), .int .i64 (rn : Int), .int .i64 (rm : Int), .int .i64 ra, .int .i64 imm, .int .i64 cond, .bool wide], .int .i64 l] w fun e w' => e = .returned (.agg (Cs.cells (Cs.made s ⟨4, rd, rn, rm, ra, imm, cond, wide⟩ l))) ∧ Below w.heap.size w w' := by
 obtain ⟨gd, bd, bd0⟩ := Cs.idx s rd hd
 obtain ⟨gn, bn, bn0⟩ := Cs.idx s rn hn
 obtain ⟨gm, bm, bm0⟩ := Cs.idx s rm hm
 go_enter Tryz.func117, Tryz.ntmps117
 go_wp2_with fail
 go_quiet (fail)
 have H := Lib.hid (Cpu3.newN w nq s 4 rd rn rm ra imm cond wide)
 generalize World.drewN _ nq = W at *
 clear gd gn gm
 obtain ⟨i0, i1, i2, i3, i4, i5, i6, i7⟩ := H.out.ins
 have c1 := H.out.st.reg rd (by omega)
 have fz := H.out.st.open
 go_wp2_with fail
 go_still_tail 10, (by kernel_rfl)
 still_call (still (shl_any _ _ _))
 repeat still_step
 still_call (still (and_any _ _ _))
 repeat still_step
 still_call (still (or_any _ _ _))
 repeat still_step
 try refine wpStill_nil ?_
 change wpList _ _ _ _ _ W.drew
 replace H := Lib.hid H.out.drew
 clear i0 i1 i2 i3 i4 i5 i6 i7 c1 fz
 generalize W.drew = V at *
 have c1 := H.out.st.reg rd (by omega)
 have fz := H.out.st.open
 go_wp2_with (first | ((with_reducible refine wpList_load_st (H.out.reg rd hd _).st ?_ ?_); exact rfl) | ((with_reducible apply wpList_store_st (H.out.reg rd hd _).res); exact rfl))
 try simp only [Exit.inBlock, Exit.then]
 refine bp_state rfl rfl ((H.out.reg rd hd _).res.setRow _) rfl ⟨rfl, (H.out.reg rd hd _).end _⟩

theorem made_5 (s : Cs.St) (rd rn rm : Nat) (ra imm cond l : Int) (wide : Bool) (w : World) (hd : rd < 13) (hn : rn < 13) (hm : rm < 13) (hw : ∀ j, 0 ≤ s.r j ∧ s.r j < 4294967296) :
  Calls Tryz.prog 117 #[.agg (Cs.cells s), .agg #[.int .i64 5, .int .i64 (rd : Int), .int .i64 (rn : Int), .int .i64 (rm : Int), .int .i64 ra, .int .i64 imm, .int .i64 cond, .bool wide], .int .i64 l] w fun e w' => e = .returned (.agg (Cs.cells (Cs.made s ⟨5, rd, rn, rm, ra, imm, cond, wide⟩ l))) ∧ Below w.heap.size w w' := by
 obtain ⟨gd, bd, bd0⟩ := Cs.idx s rd hd
 obtain ⟨gn, bn, bn0⟩ := Cs.idx s rn hn
 obtain ⟨gm, bm, bm0⟩ := Cs.idx s rm hm
 go_enter Tryz.func117, Tryz.ntmps117
 go_wp2_with fail
 go_quiet (fail)
 have H := Lib.hid (Cpu3.newN w nq s 5 rd rn rm ra imm cond wide)
 generalize World.drewN _ nq = W at *
 clear gd gn gm
 obtain ⟨i0, i1, i2, i3, i4, i5, i6, i7⟩ := H.out.ins
 have c1 := H.out.st.reg rd (by omega)
 have fz := H.out.st.open
 go_wp2_with fail
 go_still_tail 10, (by kernel_rfl)
 still_call (still (shifted_any _ _ _ _))
 repeat still_step
 try refine wpStill_nil ?_
 change wpList _ _ _ _ _ W.drew
 replace H := Lib.hid H.out.drew
 clear i0 i1 i2 i3 i4 i5 i6 i7 c1 fz
 generalize W.drew = V at *
 have c1 := H.out.st.reg rd (by omega)
 have fz := H.out.st.open
 go_wp2_with (first | ((with_reducible refine wpList_load_st (H.out.reg rd hd _).st ?_ ?_); exact rfl) | ((with_reducible apply wpList_store_st (H.out.reg rd hd _).res); exact rfl))
 try simp only [Exit.inBlock, Exit.then]
 refine bp_state rfl rfl ((H.out.reg rd hd _).res.setRow _) rfl ⟨rfl, (H.out.reg rd hd _).end _⟩

theorem made_6 (s : Cs.St) (rd rn rm : Nat) (ra imm cond l : Int) (wide : Bool) (w : World) (hd : rd < 13) (hn : rn < 13) (hm : rm < 13) (hw : ∀ j, 0 ≤ s.r j ∧ s.r j < 4294967296) :
  Calls Tryz.prog 117 #[.agg (Cs.cells s), .agg #[.int .i64 6, .int .i64 (rd : Int), .int .i64 (rn : Int), .int .i64 (rm : Int), .int .i64 ra, .int .i64 imm, .int .i64 cond, .bool wide], .int .i64 l] w fun e w' => e = .returned (.agg (Cs.cells (Cs.made s ⟨6, rd, rn, rm, ra, imm, cond, wide⟩ l))) ∧ Below w.heap.size w w' := by
 obtain ⟨gd, bd, bd0⟩ := Cs.idx s rd hd
 obtain ⟨gn, bn, bn0⟩ := Cs.idx s rn hn
 obtain ⟨gm, bm, bm0⟩ := Cs.idx s rm hm
 go_enter Tryz.func117, Tryz.ntmps117
 go_wp2_with fail
 go_quiet (fail)
 have H := Lib.hid (Cpu3.newN w nq s 6 rd rn rm ra imm cond wide)
 generalize World.drewN _ nq = W at *
 clear gd gn gm
 obtain ⟨i0, i1, i2, i3, i4, i5, i6, i7⟩ := H.out.ins
 have c1 := H.out.st.reg rd (by omega)
 have fz := H.out.st.open
 go_wp2_with fail
 go_still_tail 10, (by kernel_rfl)
 still_call (still (shifted_any _ _ _ _))
 repeat still_step
 try refine wpStill_nil ?_
 change wpList _ _ _ _ _ W.drew
 replace H := Lib.hid H.out.drew
 clear i0 i1 i2 i3 i4 i5 i6 i7 c1 fz
 generalize W.drew = V at *
 have c1 := H.out.st.reg rd (by omega)
 have fz := H.out.st.open
 go_wp2_with (first | ((with_reducible refine wpList_load_st (H.out.reg rd hd _).st ?_ ?_); exact rfl) | ((with_reducible apply wpList_store_st (H.out.reg rd hd _).res); exact rfl))
 try simp only [Exit.inBlock, Exit.then]
 refine bp_state rfl rfl ((H.out.reg rd hd _).res.setRow _) rfl ⟨rfl, (H.out.reg rd hd _).end _⟩

theorem made_7 (s : Cs.St) (rd rn rm : Nat) (ra imm cond l : Int) (wide : Bool) (w : World) (hd : rd < 13) (hn : rn < 13) (hm : rm < 13) (hw : ∀ j, 0 ≤ s.r j ∧ s.r j < 4294967296) :
  Calls Tryz.prog 117 #[.agg (Cs.cells s), .agg #[.int .i64 7, .int .i64 (rd : Int), .int .i64 (rn : Int), .int .i64 (rm : Int), .int .i64 ra, .int .i64 imm, .int .i64 cond, .bool wide], .int .i64 l] w fun e w' => e = .returned (.agg (Cs.cells (Cs.made s ⟨7, rd, rn, rm, ra, imm, cond, wide⟩ l))) ∧ Below w.heap.size w w' := by
 obtain ⟨gd, bd, bd0⟩ := Cs.idx s rd hd
 obtain ⟨gn, bn, bn0⟩ := Cs.idx s rn hn
 obtain ⟨gm, bm, bm0⟩ := Cs.idx s rm hm
 go_enter Tryz.func117, Tryz.ntmps117
 go_wp2_with fail
 go_quiet (fail)
 have H := Lib.hid (Cpu3.newN w nq s 7 rd rn rm ra imm cond wide)
 generalize World.drewN _ nq = W at *
 clear gd gn gm
 obtain ⟨i0, i1, i2, i3, i4, i5, i6, i7⟩ := H.out.ins
 have c1 := H.out.st.reg rd (by omega)
 have fz := H.out.st.open
 go_wp2_with fail
 go_still_tail 10, (by kernel_rfl)
 still_call (still (shifted_any _ _ _ _))
 repeat still_step
 try refine wpStill_nil ?_
 change wpList _ _ _ _ _ W.drew
 replace H := Lib.hid H.out.drew
 clear i0 i1 i2 i3 i4 i5 i6 i7 c1 fz
 generalize W.drew = V at *
 have c1 := H.out.st.reg rd (by omega)
 have fz := H.out.st.open
 go_wp2_with (first | ((with_reducible refine wpList_load_st (H.out.reg rd hd _).st ?_ ?_); exact rfl) | ((with_reducible apply wpList_store_st (H.out.reg rd hd _).res); exact rfl))
 try simp only [Exit.inBlock, Exit.then]
 refine bp_state rfl rfl ((H.out.reg rd hd _).res.setRow _) rfl ⟨rfl, (H.out.reg rd hd _).end _⟩

theorem made_8 (s : Cs.St) (rd rn rm : Nat) (ra imm cond l : Int) (wide : Bool) (w : World) (hd : rd < 13) (hn : rn < 13) (hm : rm < 13) (hw : ∀ j, 0 ≤ s.r j ∧ s.r j < 4294967296) :
  Calls Tryz.prog 117 #[.agg (Cs.cells s), .agg #[.int .i64 8, .int .i64 (rd : Int), .int .i64 (rn : Int), .int .i64 (rm : Int), .int .i64 ra, .int .i64 imm, .int .i64 cond, .bool wide], .int .i64 l] w fun e w' => e = .returned (.agg (Cs.cells (Cs.made s ⟨8, rd, rn, rm, ra, imm, cond, wide⟩ l))) ∧ Below w.heap.size w w' := by
 obtain ⟨gd, bd, bd0⟩ := Cs.idx s rd hd
 obtain ⟨gn, bn, bn0⟩ := Cs.idx s rn hn
 obtain ⟨gm, bm, bm0⟩ := Cs.idx s rm hm
 go_enter Tryz.func117, Tryz.ntmps117
 go_wp2_with fail
 go_quiet (fail)
 have H := Lib.hid (Cpu3.newN w nq s 8 rd rn rm ra imm cond wide)
 generalize World.drewN _ nq = W at *
 clear gd gn gm
 obtain ⟨i0, i1, i2, i3, i4, i5, i6, i7⟩ := H.out.ins
 have c1 := H.out.st.reg rd (by omega)
 have fz := H.out.st.open
 go_wp2_with fail
 go_still_tail 10, (by kernel_rfl)
 still_call (still (shifted_any _ _ _ _))
 repeat still_step
 try refine wpStill_nil ?_
 change wpList _ _ _ _ _ W.drew
 replace H := Lib.hid H.out.drew
 clear i0 i1 i2 i3 i4 i5 i6 i7 c1 fz
 generalize W.drew = V at *
 have c1 := H.out.st.reg rd (by omega)
 have fz := H.out.st.open
 go_wp2_with (first | ((with_reducible refine wpList_load_st (H.out.reg rd hd _).st ?_ ?_); exact rfl) | ((with_reducible apply wpList_store_st (H.out.reg rd hd _).res); exact rfl))
 try simp only [Exit.inBlock, Exit.then]
 refine bp_state rfl rfl ((H.out.reg rd hd _).res.setRow _) rfl ⟨rfl, (H.out.reg rd hd _).end _⟩

end Go.Proofs.YthciobjklhkkcaaGreat
end
section
namespace Go.Proofs.YthciobjklhkkcaaGreat
open Go.ChangeShapes Go.WideShapes Go.ChangeAt Go.RowKit
set_option maxHeartbeats 4000000
set_option maxRecDepth 100000
set_option linter.unusedVariables false

/-- where a memory lies -/
structure My.Loc where
 p : Nat
 ra : Addr
 rc : Nat
 ba : Nat
 G : Nat → Nat
/-- the blocks of its bytes -/
def My.Loc.own (l : My.Loc) : Nat → Prop := fun b => ∃ k, k < 7 ∧ l.G k = b
structure MemAt (W : World) (l : My.Loc) (s : My.St) (M : Int → UInt8) : Prop where
 f0 : W.cell? ⟨l.p, 0, none⟩ = some (.slice (some l.ra) 7 l.rc)
 f1 : W.cell? ⟨l.p, 1, none⟩ = some (.slice (some ⟨l.ba, 0, none⟩) 7 7)
 regs : SliceC rgC 3 W (.slice (some l.ra) 7 l.rc) (My.sev s)
 row : ∀ k, k < 7 → W.cell? ⟨l.ba, k, none⟩ = some (.slice (some ⟨l.G k, 0, none⟩) (My.ln s k) (My.ln s k))
 bytes : ∀ k, k < 7 → RowAt W (l.G k) (My.row M (My.bs s k) (My.ln s k))
 np : ∀ k, k < 7 → l.G k ≠ l.p ∧ l.G k ≠ l.ra.block ∧ l.G k ≠ l.ba
 ne : ∀ i j, i < j → j < 7 → l.G i ≠ l.G j
theorem add_block (a : Addr) (n : Nat) : (a.add n).block = a.block := by unfold Addr.add; split <;> rfl
theorem MemAt.kept {W W' : World} {l : My.Loc} {s : My.St} {M : Int → UInt8} (h : MemAt W l s M) (hb : Below W.heap.size W W') : MemAt W' l s M :=
 ⟨by rw [hb.cell (cell_lt h.f0)]; exact h.f0, by rw [hb.cell (cell_lt h.f1)]; exact h.f1, h.regs.kept hb, fun k hk => by rw [hb.cell (cell_lt (h.row k hk))]; exact h.row k hk, fun k hk => (h.bytes k hk).kept hb, h.np, h.ne⟩
theorem MemAt.reg {W : World} {l : My.Loc} {s : My.St} {M : Int → UInt8} (h : MemAt W l s M) (k : Nat) (hk : k < 7) : OnC W (l.ra.add (k * 3)) (rgC ((My.sev s)[k]'hk)) := by
 obtain ⟨p', c', e', hat⟩ := h.regs
 obtain ⟨a2, hpa, hOn⟩ := hat k hk
 injection e' with ep en ec
 rw [hpa] at ep
 injection ep with ep
 subst ep
 exact hOn
/-- a row is laid anew -/
theorem MemAt.set {W : World} {l : My.Loc} {s : My.St} {M M' : Int → UInt8} (h : MemAt W l s M) {k : Nat} (hk : k < 7) (hM : ∀ j, j < 7 → j ≠ k → My.row M' (My.bs s j) (My.ln s j) = My.row M (My.bs s j) (My.ln s j)) {cs : Array Value} (hcs : cs = (Lib.byteCells (My.row M' (My.bs s k) (My.ln s k))).toArray) :
  MemAt (W.setRow (l.G k) cs) l s M' := by
 subst hcs
 obtain ⟨n1, n2, n3⟩ := h.np k hk
 refine ⟨by rw [cell_setRow_other _ _ _ _ (fun e => n1 e.symm)]; exact h.f0, by rw [cell_setRow_other _ _ _ _ (fun e => n1 e.symm)]; exact h.f1, ?_, fun j hj => by rw [cell_setRow_other _ _ _ _ (fun e => n3 e.symm)]; exact h.row j hj, fun j hj => ?_, h.np, h.ne⟩
 ·refine ⟨some l.ra, l.rc, rfl, fun j hj => ⟨l.ra, rfl, fun i u hu => ?_⟩⟩
  rw [cell_setRow_other _ _ _ _ (fun e => n2 (by rw [← e, add_block, add_block]))]
  exact h.reg j hj i u hu
 ·by_cases e : j = k
  ·subst e
   exact setRow_heap _ _ _ _ _ _ (h.bytes j hj)
  ·unfold RowAt
   rw [setRow_other _ _ _ _ (by rcases (by omega : j < k ∨ k < j) with x | x; exact h.ne j k x hk; exact (h.ne k j x hj).symm), hM j hj e]
   exact h.bytes j hj
theorem Mm.sev_wfs {s : My.St} (h : My.good s) : Mm.wfs (My.sev s) := fun k hk => by
 have hb := My.bs_bd h k hk
 rw [My.bs_at s k hk, My.ln_at h k hk]
 omega
/-- Find's contract of a memory's regions -/
theorem find_mem {W : World} {l : My.Loc} {s : My.St} {M : Int → UInt8} (h : MemAt W l s M) (hg : My.good s) (a n : Int) (sw : Bool) (ha : a ≤ 9223372036854775807) :
  Calls Tryz.prog 89 #[.slice (some l.ra) 7 l.rc, .int .i64 a, .int .i64 n, .bool sw] W fun e w' => e = .returned (.tuple #[.int .i64 (Mm.find (My.sev s) a n sw).1, .int .i64 (Mm.find (My.sev s) a n sw).2]) ∧ Below W.heap.size W w' :=
 mfind_any (some l.ra) 7 l.rc (My.sev s) a n sw W (Lib.hid rfl) (by omega) (Lib.hid h.regs) (Lib.hid (Mm.sev_wfs hg)) (Lib.hid ha)
theorem asked_no (l : My.Loc) (s : My.St) (M : Int → UInt8) (a n E : Int) (sw : Bool) (w : World) (hm : Hid (MemAt w l s M)) (hg : Hid (My.good s)) (ha : Hid (a ≤ 9223372036854775807)) (hE : Hid (My.fe s a n sw = E)) (h0 : ¬ E = 0) :
  Calls Tryz.prog 61 #[.pointer (some ⟨l.p, 0, none⟩), .int .i64 a, .int .i64 n, .bool sw] w fun e w' => e = .returned (.tuple #[.slice none 0 0, .int .i64 E]) ∧ Below w.heap.size w w' := by
 have x0 := hm.out.f0
 obtain ⟨X, hX⟩ : ∃ X, (Mm.find (My.sev s) a n sw).1 = X := ⟨_, rfl⟩
 have C : Hid (Calls Tryz.prog 89 #[.slice (some l.ra) 7 l.rc, .int .i64 a, .int .i64 n, .bool sw] w fun e w' => e = .returned (.tuple #[.int .i64 X, .int .i64 E]) ∧ Below w.heap.size w w') := Lib.hid (by
  have h := find_mem hm.out hg.out a n sw ha.out
  rw [hX] at h
  have e : (Mm.find (My.sev s) a n sw).2 = E := hE.out
  rw [e] at h
  exact h)
 clear hX
 go_enter Tryz.func61, Tryz.ntmps61
 go_wp2_with (go_at_call 89; refine C.out.mono ?_; rintro e w1 ⟨rfl, hb1⟩; have HB := Lib.hid hb1; clear hb1)
 exact bodyPost_ret (v := .tuple #[.slice none 0 0, .int .i64 E]) (by simp [results, Tryz.results61, go_sem]) rfl ⟨rfl, HB.out⟩
theorem asked_ok (l : My.Loc) (s : My.St) (M : Int → UInt8) (k o m : Nat) (sw : Bool) (w : World) (hm : Hid (MemAt w l s M)) (hg : Hid (My.good s)) (hk : k < 7) (ho : Hid (o + m ≤ My.ln s k)) (h1 : 1 ≤ m) (h4 : m ≤ 4) (hF : Hid (Mm.find (My.sev s) (My.bs s k + (o : Nat)) (m : Nat) sw = ((k : Int), 0))) :
  Calls Tryz.prog 61 #[.pointer (some ⟨l.p, 0, none⟩), .int .i64 (My.bs s k + (o : Nat)), .int .i64 (m : Nat), .bool sw] w fun e w' => (∃ c, e = .returned (.tuple #[.slice (some ⟨l.G k, o, none⟩) m c, .int .i64 0])) ∧ Below w.heap.size w w' := by
 have x0 := hm.out.f0
 have hbd := My.bs_bd hg.out k hk
 have C : Hid (Calls Tryz.prog 89 #[.slice (some l.ra) 7 l.rc, .int .i64 (My.bs s k + (o : Nat)), .int .i64 (m : Nat), .bool sw] w fun e w' => e = .returned (.tuple #[.int .i64 (k : Int), .int .i64 0]) ∧ Below w.heap.size w w') := Lib.hid (by
  have h := find_mem hm.out hg.out (My.bs s k + (o : Nat)) (m : Nat) sw (by have := ho.out; omega)
  rw [hF.out] at h
  exact h)
 have HX : Hid (∀ w' : World, Below w.heap.size w w' → w'.cell? ⟨l.p, 0, none⟩ = some (.slice (some l.ra) 7 l.rc) ∧ w'.cell? ⟨l.p, 1, none⟩ = some (.slice (some ⟨l.ba, 0, none⟩) 7 7) ∧ w'.cell? (l.ra.add (k * 3)) = some (.int .i64 (My.bs s k)) ∧ w'.cell? ⟨l.ba, k, none⟩ = some (.slice (some ⟨l.G k, 0, none⟩) (My.ln s k) (My.ln s k))) := Lib.hid fun w' hb => by
  have h := hm.out.kept hb
  refine ⟨h.f0, h.f1, ?_, h.row k hk⟩
  have h0 := h.reg k hk 0 _ rfl
  rw [add_zero'] at h0
  rw [← My.bs_at s k hk]
  exact h0
 have hk7 : (k : Int) < 7 := by omega
 have hk0 : (0 : Int) ≤ (k : Int) := by omega
 have hw1 : wrap64 (My.bs s k + (o : Nat) - My.bs s k) = (o : Nat) := by have := ho.out; unfold wrap64; omega
 have hw2 : wrap64 ((o : Int) + (m : Nat)) = ((o + m : Nat) : Int) := by have := ho.out; unfold wrap64; omega
 have HO := ho
 generalize hbs : My.bs s k = bb at *
 generalize hln : My.ln s k = ln at *
 have ho' := HO.out
 have hne : ¬ ln = o := by omega
 clear hbs hln hbd hF ho HO
 go_enter Tryz.func61, Tryz.ntmps61
 go_wp2_with (go_at_call 89; refine C.out.mono ?_; rintro e w1 ⟨rfl, hb1⟩; obtain ⟨y0, y1, y2, y3⟩ := HX.out _ hb1; have HB := Lib.hid hb1; clear hb1)
 exact bodyPost_ret (v := .tuple #[.slice (some ⟨l.G k, o, none⟩) m (ln - o), .int .i64 0]) (by simp [results, Tryz.results61, go_sem]) rfl ⟨⟨_, rfl⟩, HB.out⟩
theorem str_row (l : List UInt8) : strOfNums (l.map fun b => (b.toNat : Int)) = ⟨l.toArray⟩ := by
 simp [strOfNums, List.map_map, Function.comp_def]
theorem row_cell {W : World} {g : Nat} {l : List UInt8} (h : RowAt W g l) (j : Nat) (hj : j < l.length) : W.cell? ⟨g, j, none⟩ = some (.int .u8 (l[j].toNat : Int)) := by
 unfold RowAt at h
 simp [World.cell?, h, Lib.byteCells, hj]
theorem run_row {W : World} {g : Nat} {l : List UInt8} (h : RowAt W g l) (n c : Nat) (hn : n = l.length) :
  (convert 115 9 (.slice (some ⟨g, 0, none⟩) n c)).run Tryz.prog W = .ok (.string ⟨l.toArray⟩) W := by
 have h2 := run_convert_bytes_arg (P := Tryz.prog) W 115 5 Tryz.underlying115 Tryz.underlying5 g 0 n c (l.map fun b => (b.toNat : Int)) (by simp [hn]) (fun i hi => by
  rw [Nat.zero_add, row_cell h i (by omega), List.getD_eq_getElem?_getD, List.getElem?_map, List.getElem?_eq_getElem (by omega)]; rfl) 9 Tryz.underlying9
 rw [h2, str_row]
theorem region_ok (l : My.Loc) (s : My.St) (M : Int → UInt8) (k : Nat) (w : World) (hm : Hid (MemAt w l s M)) (hk : k < 7) :
  Calls Tryz.prog 32 #[.pointer (some ⟨l.p, 0, none⟩), .int .i64 (k : Nat)] w fun e w' => e = .returned (.tuple #[.string ⟨(My.row M (My.bs s k) (My.ln s k)).toArray⟩, .int .i64 0]) ∧ Below w.heap.size w w' := by
 have x1 := hm.out.f1
 have x2 := hm.out.row k hk
 have hk0 : ¬ (k : Int) < 0 := by omega
 have hk1 : (0 : Int) ≤ (k : Int) := by omega
 have hk7 : ¬ (7 : Int) ≤ (k : Int) := by omega
 have hk8 : (k : Int) < 7 := by omega
 have hr := run_row (hm.out.bytes k hk) (My.ln s k) (My.ln s k) (My.row_len _ _ _).symm
 generalize My.row M (My.bs s k) (My.ln s k) = R at *
 generalize My.ln s k = n at *
 go_enter Tryz.func32, Tryz.ntmps32
 go_wp2
 exact bodyPost_ret (v := .tuple #[.string ⟨R.toArray⟩, .int .i64 0]) (by simp [results, Tryz.results32, go_sem]) rfl ⟨rfl, Below.refl _ _⟩
end Go.Proofs.YthciobjklhkkcaaGreat
end
section
namespace Go.Proofs.YthciobjklhkkcaaGreat.De
open Go.RowKit

def byt (s : ByteArray) (k : Nat) : Nat := if h : k < s.size then s[k].toNat else 0
theorem byt_eq (s : ByteArray) (k : Nat) (h : k < s.size) : s[k].toNat = byt s k := by unfold byt; rw [dif_pos h]
theorem byt_lt (s : ByteArray) (k : Nat) : byt s k < 256 := by unfold byt; split; exact UInt8.toNat_lt _; decide
/-- the k-th 16 bits of bytes -/
def half (s : ByteArray) (k : Nat) : Nat := byt s (2 * k) + 256 * byt s (2 * k + 1)
theorem half_lt (s : ByteArray) (k : Nat) : half s k < 65536 := by unfold half; have := byt_lt s (2 * k); have := byt_lt s (2 * k + 1); omega
def size (s : ByteArray) : Nat := if s.size < 2 then 0 else if half s 0 < 59392 then 2 else 4
/-- the bits of an instruction of so many bytes -/
def word (s : ByteArray) (n : Nat) : Nat := if n = 4 then half s 0 * 65536 + half s 1 else half s 0
/-- so many bits from one on -/
def pt (w f c : Nat) : Nat := w / 2 ^ f % 2 ^ c
theorem pt_lt (w f c : Nat) : pt w f c < 2 ^ c := Nat.mod_lt _ (Nat.two_pow_pos c)
def hit (w m b : Nat) : Bool := (w &&& m) == b
def rows : List (Int × Nat × Nat) :=
  [(1, 4294967295, 48896), (2, 4294967040, 48640), (3, 4226842624, 4064280576), (4, 4226842624, 4072669184), (5, 4294934576, 3931045888), (6, 4294934576, 3931045904), (7, 4294934576, 3931045920), (8, 4294934576, 3931045936), (9, 4294963440, 3933143040), (10, 4293980400, 3925868544), (11, 4293980400, 3927965696), (12, 4293980400, 3930062848), (13, 4293980400, 3934257152), (14, 4293980400, 3942645760), (15, 4293980400, 3953131520), (16, 4293980400, 4211142656), (17, 4293918960, 4221566976), (18, 4293951520, 4083154944), (19, 4294967232, 26624), (20, 4294967232, 24576), (21, 4294967232, 30720), (22, 4294967232, 28672), (23, 4294967232, 17024), (24, 4294965248, 57344), (24, 4160802816, 4026568704), (25, 4294963200, 53248), (25, 4160802816, 4026564608)]
def findIn (w : Nat) : List (Int × Nat × Nat) → Int
  | [] => 0
  | r :: l => if hit w r.2.1 r.2.2 then r.1 else findIn w l
def find (w : Nat) : Int := findIn w rows
def shift (w : Nat) : Nat := pt w 12 3 * 4 + pt w 6 2
def alike (a b : Nat) : Nat := if a = b then 1 else 0
def signed (n c : Nat) : Int := if n < 2 ^ (c - 1) then (n : Int) else (n : Int) - 2 ^ c
def imm16 (x : Nat) : Nat := pt x 16 4 * 4096 + pt x 26 1 * 2048 + pt x 12 3 * 256 + pt x 0 8
def b24w (x : Nat) : Nat := pt x 26 1 * 16777216 + alike (pt x 13 1) (pt x 26 1) * 8388608 + alike (pt x 11 1) (pt x 26 1) * 4194304 + pt x 16 10 * 4096 + pt x 0 11 * 2
def b24n (x : Nat) : Nat := pt x 0 11 * 2
def b25w (x : Nat) : Nat := pt x 26 1 * 1048576 + pt x 11 1 * 524288 + pt x 13 1 * 262144 + pt x 16 6 * 4096 + pt x 0 11 * 2
def b25n (x : Nat) : Nat := pt x 0 8 * 2
theorem alike_lt (a b : Nat) : alike a b < 2 := by unfold alike; split <;> decide
open Th (Ins none0)
def readB (op : Int) (w : Nat) : Ins :=
  if op == 24 then
    (if 65536 ≤ w then { none0 with op := op, wide := true, imm := signed (b24w w) 25 }
     else { none0 with op := op, imm := signed (b24n w) 12 })
  else
    (if 65536 ≤ w then { none0 with op := op, wide := true, cond := pt w 22 4, imm := signed (b25w w) 21 }
     else { none0 with op := op, cond := pt w 8 4, imm := signed (b25n w) 9 })
def read (op : Int) (w : Nat) : Ins :=
  if op == 2 then { none0 with op := op, imm := pt w 0 8 }
  else if op == 3 || op == 4 then { none0 with op := op, rd := pt w 8 4, imm := imm16 w }
  else if op == 5 || op == 6 || op == 7 || op == 8 then { none0 with op := op, rd := pt w 8 4, rm := pt w 0 4, imm := shift w }
  else if op == 9 then { none0 with op := op, rd := pt w 8 4, rm := pt w 0 4 }
  else if op == 10 || op == 11 || op == 12 || op == 13 || op == 14 || op == 15 || op == 16 then { none0 with op := op, rd := pt w 8 4, rn := pt w 16 4, rm := pt w 0 4 }
  else if op == 17 then { none0 with op := op, rd := pt w 12 4, ra := pt w 8 4, rn := pt w 16 4, rm := pt w 0 4 }
  else if op == 18 then { none0 with op := op, rd := pt w 8 4, rn := pt w 16 4, imm := shift w, ra := (pt w 0 5 : Int) + 1 - shift w }
  else if op == 19 || op == 20 || op == 21 || op == 22 then { none0 with op := op, rd := pt w 0 3, rn := pt w 3 3 }
  else if op == 23 then { none0 with op := op, rn := pt w 0 3, rm := pt w 3 3 }
  else if op == 24 || op == 25 then readB op w
  else { none0 with op := op }
def there (i : Ins) : Bool :=
  if decide (12 < i.rd) || decide (12 < i.rn) || decide (12 < i.rm) || decide (13 < i.cond) then false
  else if i.op == 0 then false
  else if i.op == 6 || i.op == 7 || i.op == 8 then decide (1 ≤ i.imm)
  else if i.op == 17 then decide (i.ra ≤ 12) && i.ra != i.rd
  else if i.op == 18 then decide (1 ≤ i.ra)
  else true
/-- what bytes are: an instruction, how many bytes it has, and the error -/
def told (s : ByteArray) : Ins := read (find (word s (size s))) (word s (size s))
def err (s : ByteArray) : Int := if size s = 0 ∨ s.size < size s then 3 else if there (told s) then 0 else 7
def ins (s : ByteArray) : Ins := if err s = 0 then told s else none0
def len (s : ByteArray) : Nat := if err s = 0 then size s else 0

theorem and_u32 (x m : Nat) (hx : x < 4294967296) (hm : m < 4294967296) : bits .and .u32 (x : Int) (m : Int) = ((x &&& m : Nat) : Int) := by
  show IntKind.u32.wrap ((BitVec.ofInt 32 (x : Int) &&& BitVec.ofInt 32 (m : Int)).toNat : Int) = _
  have e : ∀ y : Nat, y < 4294967296 → (BitVec.ofInt 32 (y : Int)).toNat = y := fun y hy => by
    rw [BitVec.toNat_ofInt]; omega
  have hl : x &&& m < 2 ^ 32 := Nat.and_lt_two_pow _ hm
  rw [BitVec.toNat_and, e x hx, e m hm, IntKind.wrap_u32]
  omega
theorem or_u32 (x m : Nat) (hx : x < 4294967296) (hm : m < 4294967296) : bits .or .u32 (x : Int) (m : Int) = ((x ||| m : Nat) : Int) := by
  show IntKind.u32.wrap ((BitVec.ofInt 32 (x : Int) ||| BitVec.ofInt 32 (m : Int)).toNat : Int) = _
  have e : ∀ y : Nat, y < 4294967296 → (BitVec.ofInt 32 (y : Int)).toNat = y := fun y hy => by
    rw [BitVec.toNat_ofInt]; omega
  have hl : x ||| m < 2 ^ 32 := Nat.or_lt_two_pow hx hm
  rw [BitVec.toNat_or, e x hx, e m hm, IntKind.wrap_u32]
  omega
end Go.Proofs.YthciobjklhkkcaaGreat.De
end
