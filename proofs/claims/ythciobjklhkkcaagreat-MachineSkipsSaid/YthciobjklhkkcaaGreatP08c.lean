/-
What Access and Cycles of package cpu, and of the document, return.
What package decode's readBranch and read return.
-/
import Derived.Test.YthciobjklhkkcaaGreatP07a
import Derived.Test.YthciobjklhkkcaaGreatP05b
import Derived.Test.YthciobjklhkkcaaGreatP05a
import Derived.Test.YthciobjklhkkcaaGreatP01a
import Derived.IntWalk
import Derived.Test.YthciobjklhkkcaaGreatP07b
import Derived.Test.YthciobjklhkkcaaGreatP02b
section
namespace Go.Proofs.YthciobjklhkkcaaGreat
open Go.ChangeShapes Go.WideShapes Go.ChangeAt Go.RowKit
set_option maxHeartbeats 4000000
set_option maxRecDepth 10000
set_option linter.unusedVariables false
set_option linter.unusedSimpArgs false

theorem beq_of_bne {a : Int} (h : (a != 0) = true) : (a == 0) = false := by simpa using h
theorem beq_of_bnf {a : Int} (h : (a != 0) = false) : a = 0 := by simpa using h
/-- an access in four cells of a block, that may be written -/
def AccAt (W : World) (b : Nat) (a : Cs.Acc) : Prop := W.heap[b]? = some (.cells #[.int .i64 a.addr, .int .i64 a.size, .int .i64 a.value, .bool a.write] 137 (0, 0))
section
variable {W W' : World} {b : Nat} {a : Cs.Acc}
theorem AccAt.lt (h : AccAt W b a) : b < W.heap.size := (Array.getElem?_eq_some_iff.1 h).1
theorem AccAt.below (h : AccAt W b a) (hb : Below W.heap.size W W') : AccAt W' b a := by unfold AccAt; rw [hb.block b h.lt]; exact h
theorem AccAt.open (h : AccAt W b a) (k : Nat) : W.frozen? ⟨b, k, none⟩ = false := by unfold AccAt at h; simp [World.frozen?, h]
theorem AccAt.c0 (h : AccAt W b a) : W.cell? ⟨b, 0, none⟩ = some (.int .i64 a.addr) := cell_of_row W b 0 _ _ _ h
theorem AccAt.c1 (h : AccAt W b a) : W.cell? ⟨b, 1, none⟩ = some (.int .i64 a.size) := cell_of_row W b 1 _ _ _ h
theorem AccAt.c2 (h : AccAt W b a) : W.cell? ⟨b, 2, none⟩ = some (.int .i64 a.value) := cell_of_row W b 2 _ _ _ h
theorem AccAt.c3 (h : AccAt W b a) : W.cell? ⟨b, 3, none⟩ = some (.bool a.write) := cell_of_row W b 3 _ _ _ h
end
theorem info_acc : (Tryz.prog.info? 137).map (·.size) = some 4 := by kernel_rfl
theorem AccAt.row {W : World} {b : Nat} {a : Cs.Acc} (h : AccAt W b a) (x y z : Int) (v : Bool) : AccAt (W.setRow b #[.int .i64 x, .int .i64 y, .int .i64 z, .bool v]) b ⟨x, y, z, v⟩ := setRow_heap W b _ _ _ _ h
theorem wpList_store_acc {ops : Array Oper} {rest : List Oper} {o : Oper} {a : Act} {w : World} {Q : Exit → Act → World → Prop} {b : Nat} {a0 : Cs.Acc} (h : AccAt w b a0) (x y z : Int) (v : Bool) (ho : stOf a o = some (137, .pointer (some ⟨b, 0, none⟩), .agg #[.int .i64 x, .int .i64 y, .int .i64 z, .bool v]))
  (k : wpList Tryz.prog ops Q rest (a.put o.dst undef) (w.setRow b #[.int .i64 x, .int .i64 y, .int .i64 z, .bool v])) : wpList Tryz.prog ops Q (o :: rest) a w := by
 obtain ⟨hg, p, q, ho, hx, hy⟩ := stOf_eq ho
 exact wpList_plain hg fun _ hK => wp_store_row _ p q ho b _ hx hy _ _ h info_acc rfl (by simp [Value.oneCell']) (hK _ _ k)
theorem bp_acc2 {fn : Func} {R : Ending → World → Prop} {a : Act} {w : World} {p q : Tmp} {b : Nat} {c : Cs.Acc} (hr : fn.results = #[.cell p 137, .tmp q]) (hp : a.tmps.getD p undef = .pointer (some ⟨b, 0, none⟩)) (h : AccAt w b c) (hd : a.defers = [])
  (hR : R (.returned (.tuple #[.agg #[.int .i64 c.addr, .int .i64 c.size, .int .i64 c.value, .bool c.write], a.tmps.getD q undef])) w) : bodyPost Tryz.prog fn R .ret a w := by
 have hp' : a.tmps[p]?.getD undef = .pointer (some ⟨b, 0, none⟩) := by simpa using hp
 refine bodyPost_ret ?_ hd hR
 simp [results, hr, hp', asAddr, run_loadVar_row w b _ _ _ _ _ h Tryz.underlying137 rfl info_acc]
/-- a state, an instruction and an access in three blocks -/
structure CpuA (w : World) (n : Nat) (W : World) (s : Cs.St) (op rd rn rm ra imm cond : Int) (wide : Bool) : Prop where
 st : StateAt W n s
 ins : InsAt W (n + 1) op rd rn rm ra imm cond wide
 res : AccAt W (n + 1 + 1) ⟨0, 0, 0, false⟩
 bel : Below n w W
section
variable {w W W' : World} {n : Nat} {s : Cs.St} {op rd rn rm ra imm cond : Int} {wide : Bool}
theorem CpuA.kept (h : CpuA w n W s op rd rn rm ra imm cond wide) (hb : Below W.heap.size W W') : CpuA w n W' s op rd rn rm ra imm cond wide := by
 have := h.res.lt
 exact ⟨h.st.below hb, h.ins.below hb (by omega), h.res.below hb, h.bel.trans (hb.mono (by omega))⟩
theorem CpuA.new (w : World) (s : Cs.St) (op rd rn rm ra imm cond : Int) (wide : Bool) :
  CpuA w w.heap.size (((w.alloc (.cells (Cs.cells s) 56)).alloc (.cells #[.int .i64 op, .int .i64 rd, .int .i64 rn, .int .i64 rm, .int .i64 ra, .int .i64 imm, .int .i64 cond, .bool wide] 123)).alloc (.cells #[.int .i64 0, .int .i64 0, .int .i64 0, .bool false] 137)) s op rd rn rm ra imm cond wide := by
 refine ⟨((state_alloc w s).alloc _).alloc _, ?_, ?_, (((Below.refl _ _).alloc (Nat.le_refl _) _).alloc (by simp) _).alloc (by simp; omega) _⟩
 ·refine InsAt.alloc ?_ (by simp) _
  have h := ins_alloc (w.alloc (.cells (Cs.cells s) 56)) 123 op rd rn rm ra imm cond wide
  simpa using h
 ·have h := heap_alloc_last ((w.alloc (.cells (Cs.cells s) 56)).alloc (.cells #[.int .i64 op, .int .i64 rd, .int .i64 rn, .int .i64 rm, .int .i64 ra, .int .i64 imm, .int .i64 cond, .bool wide] 123)) (.cells #[.int .i64 0, .int .i64 0, .int .i64 0, .bool false] 137)
  unfold AccAt
  simpa using h
end

theorem access_a (s : Cs.St) (op rd rn rm ra imm cond : Int) (wide : Bool) (w : World) (hz : (Th.check ⟨op, rd, rn, rm, ra, imm, cond, wide⟩ != 0) = true) :
  Calls Tryz.prog 112 #[.agg (Cs.cells s), .agg #[.int .i64 op, .int .i64 rd, .int .i64 rn, .int .i64 rm, .int .i64 ra, .int .i64 imm, .int .i64 cond, .bool wide]] w fun e w' => e = .returned (.tuple #[.agg #[.int .i64 (Cs.access s ⟨op, rd, rn, rm, ra, imm, cond, wide⟩).addr, .int .i64 (Cs.access s ⟨op, rd, rn, rm, ra, imm, cond, wide⟩).size, .int .i64 (Cs.access s ⟨op, rd, rn, rm, ra, imm, cond, wide⟩).value, .bool (Cs.access s ⟨op, rd, rn, rm, ra, imm, cond, wide⟩).write], .bool (Cs.accessB ⟨op, rd, rn, rm, ra, imm, cond, wide⟩)]) ∧ Below w.heap.size w w' := by
 have H := Lib.hid (CpuA.new w s op rd rn rm ra imm cond wide)
 go_enter Tryz.func112, Tryz.ntmps112
 go_wp2_with (first | (go_at_call 118; refine (check_any _ _ _ _ _ _ _ _ _).mono ?_; rintro e w1 ⟨rfl, hb⟩; replace H := Lib.hid (H.out.kept hb); obtain ⟨i0, i1, i2, i3, i4, i5, i6, i7⟩ := H.out.ins; have a0 := H.out.res.c0; have a1 := H.out.res.c1; have a2 := H.out.res.c2; have a3 := H.out.res.c3; have af := H.out.res.open; clear hb) | ((with_reducible apply wpList_store_acc H.out.res); exact rfl))
 try simp only [Exit.inBlock, Exit.then]
 refine bp_acc2 rfl rfl (H.out.res.row _ _ _ _) rfl ⟨?_, below_setRow H.out.bel (by omega) _⟩
 rw [show Cs.access s ⟨op, rd, rn, rm, ra, imm, cond, wide⟩ = ⟨0, 0, 0, false⟩ by simp only [Cs.access, hz, if_true], show Cs.accessB ⟨op, rd, rn, rm, ra, imm, cond, wide⟩ = false by simp [Cs.accessB, beq_of_bne hz]]
 rfl
theorem access_19 (s : Cs.St) (rd rn rm : Nat) (ra imm cond : Int) (wide : Bool) (w : World) (hd : rd < 13) (hn : rn < 13) (hz : (Th.check ⟨19, (rd : Int), (rn : Int), (rm : Int), ra, imm, cond, wide⟩ != 0) = false)  :
  Calls Tryz.prog 112 #[.agg (Cs.cells s), .agg #[.int .i64 19, .int .i64 (rd : Int), .int .i64 (rn : Int), .int .i64 (rm : Int), .int .i64 ra, .int .i64 imm, .int .i64 cond, .bool wide]] w fun e w' => e = .returned (.tuple #[.agg #[.int .i64 (Cs.access s ⟨19, (rd : Int), (rn : Int), (rm : Int), ra, imm, cond, wide⟩).addr, .int .i64 (Cs.access s ⟨19, (rd : Int), (rn : Int), (rm : Int), ra, imm, cond, wide⟩).size, .int .i64 (Cs.access s ⟨19, (rd : Int), (rn : Int), (rm : Int), ra, imm, cond, wide⟩).value, .bool (Cs.access s ⟨19, (rd : Int), (rn : Int), (rm : Int), ra, imm, cond, wide⟩).write], .bool (Cs.accessB ⟨19, (rd : Int), (rn : Int), (rm : Int), ra, imm, cond, wide⟩)]) ∧ Below w.heap.size w w' := by
 have bd : (rd : Int) < 15 := by omega
 have bn : (rn : Int) < 15 := by omega
 have bd0 : (0 : Int) ≤ (rd : Int) := by omega
 have bn0 : (0 : Int) ≤ (rn : Int) := by omega
 have H := Lib.hid (CpuA.new w s 19 (rd : Int) (rn : Int) (rm : Int) ra imm cond wide)
 go_enter Tryz.func112, Tryz.ntmps112
 go_wp2_with (first | (go_at_call 118; refine (check_any _ _ _ _ _ _ _ _ _).mono ?_; rintro e w1 ⟨rfl, hb⟩; replace H := Lib.hid (H.out.kept hb); obtain ⟨i0, i1, i2, i3, i4, i5, i6, i7⟩ := H.out.ins; have a0 := H.out.res.c0; have a1 := H.out.res.c1; have a2 := H.out.res.c2; have a3 := H.out.res.c3; have af := H.out.res.open; clear hb))
 have sd := H.out.st.reg rd (by omega)
 have sn := H.out.st.reg rn (by omega)
 go_quiet (first | (go_at_call 81; refine Calls.quiet_of_same (still (wrap_any _ _))))
 replace H := Lib.hid (H.out.kept (below_drewC (Below.refl _ _) nq))
 clear i0 i1 i2 i3 i4 i5 i6 i7 a0 a1 a2 a3 af sd sn
 generalize World.drewN _ nq = U at *
 obtain ⟨i0, i1, i2, i3, i4, i5, i6, i7⟩ := H.out.ins; have a0 := H.out.res.c0; have a1 := H.out.res.c1; have a2 := H.out.res.c2; have a3 := H.out.res.c3; have af := H.out.res.open
 go_wp2_with (first | (go_at_call 145; refine (and_any _ _ _).mono ?_; rintro e w' ⟨rfl, rfl⟩) | ((with_reducible apply wpList_store_acc H.out.res); exact rfl))
 try simp only [Exit.inBlock, Exit.then]
 refine bp_acc2 rfl rfl (H.out.res.row _ _ _ _) rfl ⟨?_, below_setRow H.out.bel (by omega) _⟩
 rw [show Cs.access s ⟨19, (rd : Int), (rn : Int), (rm : Int), ra, imm, cond, wide⟩ = ⟨Wd.wrap (s.r rn), 4, 0, false⟩ by simp only [Cs.access, hz, Bool.false_eq_true, if_false]; rfl, show Cs.accessB ⟨19, (rd : Int), (rn : Int), (rm : Int), ra, imm, cond, wide⟩ = true by simp [Cs.accessB, Cs.mem, beq_of_bnf hz]]
 rfl
theorem access_21 (s : Cs.St) (rd rn rm : Nat) (ra imm cond : Int) (wide : Bool) (w : World) (hd : rd < 13) (hn : rn < 13) (hz : (Th.check ⟨21, (rd : Int), (rn : Int), (rm : Int), ra, imm, cond, wide⟩ != 0) = false)  :
  Calls Tryz.prog 112 #[.agg (Cs.cells s), .agg #[.int .i64 21, .int .i64 (rd : Int), .int .i64 (rn : Int), .int .i64 (rm : Int), .int .i64 ra, .int .i64 imm, .int .i64 cond, .bool wide]] w fun e w' => e = .returned (.tuple #[.agg #[.int .i64 (Cs.access s ⟨21, (rd : Int), (rn : Int), (rm : Int), ra, imm, cond, wide⟩).addr, .int .i64 (Cs.access s ⟨21, (rd : Int), (rn : Int), (rm : Int), ra, imm, cond, wide⟩).size, .int .i64 (Cs.access s ⟨21, (rd : Int), (rn : Int), (rm : Int), ra, imm, cond, wide⟩).value, .bool (Cs.access s ⟨21, (rd : Int), (rn : Int), (rm : Int), ra, imm, cond, wide⟩).write], .bool (Cs.accessB ⟨21, (rd : Int), (rn : Int), (rm : Int), ra, imm, cond, wide⟩)]) ∧ Below w.heap.size w w' := by
 have bd : (rd : Int) < 15 := by omega
 have bn : (rn : Int) < 15 := by omega
 have bd0 : (0 : Int) ≤ (rd : Int) := by omega
 have bn0 : (0 : Int) ≤ (rn : Int) := by omega
 have H := Lib.hid (CpuA.new w s 21 (rd : Int) (rn : Int) (rm : Int) ra imm cond wide)
 go_enter Tryz.func112, Tryz.ntmps112
 go_wp2_with (first | (go_at_call 118; refine (check_any _ _ _ _ _ _ _ _ _).mono ?_; rintro e w1 ⟨rfl, hb⟩; replace H := Lib.hid (H.out.kept hb); obtain ⟨i0, i1, i2, i3, i4, i5, i6, i7⟩ := H.out.ins; have a0 := H.out.res.c0; have a1 := H.out.res.c1; have a2 := H.out.res.c2; have a3 := H.out.res.c3; have af := H.out.res.open; clear hb))
 have sd := H.out.st.reg rd (by omega)
 have sn := H.out.st.reg rn (by omega)
 go_quiet (first | (go_at_call 81; refine Calls.quiet_of_same (still (wrap_any _ _))))
 replace H := Lib.hid (H.out.kept (below_drewC (Below.refl _ _) nq))
 clear i0 i1 i2 i3 i4 i5 i6 i7 a0 a1 a2 a3 af sd sn
 generalize World.drewN _ nq = U at *
 obtain ⟨i0, i1, i2, i3, i4, i5, i6, i7⟩ := H.out.ins; have a0 := H.out.res.c0; have a1 := H.out.res.c1; have a2 := H.out.res.c2; have a3 := H.out.res.c3; have af := H.out.res.open
 go_wp2_with (first | (go_at_call 145; refine (and_any _ _ _).mono ?_; rintro e w' ⟨rfl, rfl⟩) | ((with_reducible apply wpList_store_acc H.out.res); exact rfl))
 try simp only [Exit.inBlock, Exit.then]
 refine bp_acc2 rfl rfl (H.out.res.row _ _ _ _) rfl ⟨?_, below_setRow H.out.bel (by omega) _⟩
 rw [show Cs.access s ⟨21, (rd : Int), (rn : Int), (rm : Int), ra, imm, cond, wide⟩ = ⟨Wd.wrap (s.r rn), 1, 0, false⟩ by simp only [Cs.access, hz, Bool.false_eq_true, if_false]; rfl, show Cs.accessB ⟨21, (rd : Int), (rn : Int), (rm : Int), ra, imm, cond, wide⟩ = true by simp [Cs.accessB, Cs.mem, beq_of_bnf hz]]
 rfl
theorem access_20 (s : Cs.St) (rd rn rm : Nat) (ra imm cond : Int) (wide : Bool) (w : World) (hd : rd < 13) (hn : rn < 13) (hz : (Th.check ⟨20, (rd : Int), (rn : Int), (rm : Int), ra, imm, cond, wide⟩ != 0) = false)  :
  Calls Tryz.prog 112 #[.agg (Cs.cells s), .agg #[.int .i64 20, .int .i64 (rd : Int), .int .i64 (rn : Int), .int .i64 (rm : Int), .int .i64 ra, .int .i64 imm, .int .i64 cond, .bool wide]] w fun e w' => e = .returned (.tuple #[.agg #[.int .i64 (Cs.access s ⟨20, (rd : Int), (rn : Int), (rm : Int), ra, imm, cond, wide⟩).addr, .int .i64 (Cs.access s ⟨20, (rd : Int), (rn : Int), (rm : Int), ra, imm, cond, wide⟩).size, .int .i64 (Cs.access s ⟨20, (rd : Int), (rn : Int), (rm : Int), ra, imm, cond, wide⟩).value, .bool (Cs.access s ⟨20, (rd : Int), (rn : Int), (rm : Int), ra, imm, cond, wide⟩).write], .bool (Cs.accessB ⟨20, (rd : Int), (rn : Int), (rm : Int), ra, imm, cond, wide⟩)]) ∧ Below w.heap.size w w' := by
 have bd : (rd : Int) < 15 := by omega
 have bn : (rn : Int) < 15 := by omega
 have bd0 : (0 : Int) ≤ (rd : Int) := by omega
 have bn0 : (0 : Int) ≤ (rn : Int) := by omega
 have H := Lib.hid (CpuA.new w s 20 (rd : Int) (rn : Int) (rm : Int) ra imm cond wide)
 go_enter Tryz.func112, Tryz.ntmps112
 go_wp2_with (first | (go_at_call 118; refine (check_any _ _ _ _ _ _ _ _ _).mono ?_; rintro e w1 ⟨rfl, hb⟩; replace H := Lib.hid (H.out.kept hb); obtain ⟨i0, i1, i2, i3, i4, i5, i6, i7⟩ := H.out.ins; have a0 := H.out.res.c0; have a1 := H.out.res.c1; have a2 := H.out.res.c2; have a3 := H.out.res.c3; have af := H.out.res.open; clear hb))
 have sd := H.out.st.reg rd (by omega)
 have sn := H.out.st.reg rn (by omega)
 go_quiet (first | (go_at_call 81; refine Calls.quiet_of_same (still (wrap_any _ _))))
 replace H := Lib.hid (H.out.kept (below_drewC (Below.refl _ _) nq))
 clear i0 i1 i2 i3 i4 i5 i6 i7 a0 a1 a2 a3 af sd sn
 generalize World.drewN _ nq = U at *
 obtain ⟨i0, i1, i2, i3, i4, i5, i6, i7⟩ := H.out.ins; have a0 := H.out.res.c0; have a1 := H.out.res.c1; have a2 := H.out.res.c2; have a3 := H.out.res.c3; have af := H.out.res.open
 go_wp2_with (first | (go_at_call 145; refine (and_any _ _ _).mono ?_; rintro e w' ⟨rfl, rfl⟩) | ((with_reducible apply wpList_store_acc H.out.res); exact rfl))
 try simp only [Exit.inBlock, Exit.then]
 refine bp_acc2 rfl rfl (H.out.res.row _ _ _ _) rfl ⟨?_, below_setRow H.out.bel (by omega) _⟩
 rw [show Cs.access s ⟨20, (rd : Int), (rn : Int), (rm : Int), ra, imm, cond, wide⟩ = ⟨Wd.wrap (s.r rn), 4, Wd.wrap (s.r rd), true⟩ by simp only [Cs.access, hz, Bool.false_eq_true, if_false]; rfl, show Cs.accessB ⟨20, (rd : Int), (rn : Int), (rm : Int), ra, imm, cond, wide⟩ = true by simp [Cs.accessB, Cs.mem, beq_of_bnf hz]]
 rfl
theorem access_22 (s : Cs.St) (rd rn rm : Nat) (ra imm cond : Int) (wide : Bool) (w : World) (hd : rd < 13) (hn : rn < 13) (hz : (Th.check ⟨22, (rd : Int), (rn : Int), (rm : Int), ra, imm, cond, wide⟩ != 0) = false)  :
  Calls Tryz.prog 112 #[.agg (Cs.cells s), .agg #[.int .i64 22, .int .i64 (rd : Int), .int .i64 (rn : Int), .int .i64 (rm : Int), .int .i64 ra, .int .i64 imm, .int .i64 cond, .bool wide]] w fun e w' => e = .returned (.tuple #[.agg #[.int .i64 (Cs.access s ⟨22, (rd : Int), (rn : Int), (rm : Int), ra, imm, cond, wide⟩).addr, .int .i64 (Cs.access s ⟨22, (rd : Int), (rn : Int), (rm : Int), ra, imm, cond, wide⟩).size, .int .i64 (Cs.access s ⟨22, (rd : Int), (rn : Int), (rm : Int), ra, imm, cond, wide⟩).value, .bool (Cs.access s ⟨22, (rd : Int), (rn : Int), (rm : Int), ra, imm, cond, wide⟩).write], .bool (Cs.accessB ⟨22, (rd : Int), (rn : Int), (rm : Int), ra, imm, cond, wide⟩)]) ∧ Below w.heap.size w w' := by
 have bd : (rd : Int) < 15 := by omega
 have bn : (rn : Int) < 15 := by omega
 have bd0 : (0 : Int) ≤ (rd : Int) := by omega
 have bn0 : (0 : Int) ≤ (rn : Int) := by omega
 have H := Lib.hid (CpuA.new w s 22 (rd : Int) (rn : Int) (rm : Int) ra imm cond wide)
 go_enter Tryz.func112, Tryz.ntmps112
 go_wp2_with (first | (go_at_call 118; refine (check_any _ _ _ _ _ _ _ _ _).mono ?_; rintro e w1 ⟨rfl, hb⟩; replace H := Lib.hid (H.out.kept hb); obtain ⟨i0, i1, i2, i3, i4, i5, i6, i7⟩ := H.out.ins; have a0 := H.out.res.c0; have a1 := H.out.res.c1; have a2 := H.out.res.c2; have a3 := H.out.res.c3; have af := H.out.res.open; clear hb))
 have sd := H.out.st.reg rd (by omega)
 have sn := H.out.st.reg rn (by omega)
 go_quiet (first | (go_at_call 81; refine Calls.quiet_of_same (still (wrap_any _ _))))
 replace H := Lib.hid (H.out.kept (below_drewC (Below.refl _ _) nq))
 clear i0 i1 i2 i3 i4 i5 i6 i7 a0 a1 a2 a3 af sd sn
 generalize World.drewN _ nq = U at *
 obtain ⟨i0, i1, i2, i3, i4, i5, i6, i7⟩ := H.out.ins; have a0 := H.out.res.c0; have a1 := H.out.res.c1; have a2 := H.out.res.c2; have a3 := H.out.res.c3; have af := H.out.res.open
 go_wp2_with (first | (go_at_call 145; refine (and_any _ _ _).mono ?_; rintro e w' ⟨rfl, rfl⟩) | ((with_reducible apply wpList_store_acc H.out.res); exact rfl))
 try simp only [Exit.inBlock, Exit.then]
 refine bp_acc2 rfl rfl (H.out.res.row _ _ _ _) rfl ⟨?_, below_setRow H.out.bel (by omega) _⟩
 rw [show Cs.access s ⟨22, (rd : Int), (rn : Int), (rm : Int), ra, imm, cond, wide⟩ = ⟨Wd.wrap (s.r rn), 1, Wd.and (Wd.wrap (s.r rd)) 255, true⟩ by rw [Cs.strb, Wd.wrap_wrap]; simp only [Cs.access, hz, Bool.false_eq_true, if_false]; rfl, show Cs.accessB ⟨22, (rd : Int), (rn : Int), (rm : Int), ra, imm, cond, wide⟩ = true by simp [Cs.accessB, Cs.mem, beq_of_bnf hz]]
 rfl
theorem access_o (s : Cs.St) (op : Int) (rd rn rm : Nat) (ra imm cond : Int) (wide : Bool) (w : World) (hd : rd < 13) (hn : rn < 13) (hz : (Th.check ⟨op, (rd : Int), (rn : Int), (rm : Int), ra, imm, cond, wide⟩ != 0) = false) (o19 : (op == 19) = false) (o20 : (op == 20) = false) (o21 : (op == 21) = false) (o22 : (op == 22) = false) :
  Calls Tryz.prog 112 #[.agg (Cs.cells s), .agg #[.int .i64 op, .int .i64 (rd : Int), .int .i64 (rn : Int), .int .i64 (rm : Int), .int .i64 ra, .int .i64 imm, .int .i64 cond, .bool wide]] w fun e w' => e = .returned (.tuple #[.agg #[.int .i64 (Cs.access s ⟨op, (rd : Int), (rn : Int), (rm : Int), ra, imm, cond, wide⟩).addr, .int .i64 (Cs.access s ⟨op, (rd : Int), (rn : Int), (rm : Int), ra, imm, cond, wide⟩).size, .int .i64 (Cs.access s ⟨op, (rd : Int), (rn : Int), (rm : Int), ra, imm, cond, wide⟩).value, .bool (Cs.access s ⟨op, (rd : Int), (rn : Int), (rm : Int), ra, imm, cond, wide⟩).write], .bool (Cs.accessB ⟨op, (rd : Int), (rn : Int), (rm : Int), ra, imm, cond, wide⟩)]) ∧ Below w.heap.size w w' := by
 have bd : (rd : Int) < 15 := by omega
 have bn : (rn : Int) < 15 := by omega
 have bd0 : (0 : Int) ≤ (rd : Int) := by omega
 have bn0 : (0 : Int) ≤ (rn : Int) := by omega
 have H := Lib.hid (CpuA.new w s op (rd : Int) (rn : Int) (rm : Int) ra imm cond wide)
 go_enter Tryz.func112, Tryz.ntmps112
 go_wp2_with (first | (go_at_call 118; refine (check_any _ _ _ _ _ _ _ _ _).mono ?_; rintro e w1 ⟨rfl, hb⟩; replace H := Lib.hid (H.out.kept hb); obtain ⟨i0, i1, i2, i3, i4, i5, i6, i7⟩ := H.out.ins; have a0 := H.out.res.c0; have a1 := H.out.res.c1; have a2 := H.out.res.c2; have a3 := H.out.res.c3; have af := H.out.res.open; clear hb))
 have sd := H.out.st.reg rd (by omega)
 have sn := H.out.st.reg rn (by omega)
 go_quiet (first | (go_at_call 81; refine Calls.quiet_of_same (still (wrap_any _ _))))
 replace H := Lib.hid (H.out.kept (below_drewC (Below.refl _ _) nq))
 clear i0 i1 i2 i3 i4 i5 i6 i7 a0 a1 a2 a3 af sd sn
 generalize World.drewN _ nq = U at *
 obtain ⟨i0, i1, i2, i3, i4, i5, i6, i7⟩ := H.out.ins; have a0 := H.out.res.c0; have a1 := H.out.res.c1; have a2 := H.out.res.c2; have a3 := H.out.res.c3; have af := H.out.res.open
 go_wp2_with (first | (go_at_call 145; refine (and_any _ _ _).mono ?_; rintro e w' ⟨rfl, rfl⟩) | ((with_reducible apply wpList_store_acc H.out.res); exact rfl))
 try simp only [Exit.inBlock, Exit.then]
 refine bp_acc2 rfl rfl (H.out.res.row _ _ _ _) rfl ⟨?_, below_setRow H.out.bel (by omega) _⟩
 rw [show Cs.access s ⟨op, (rd : Int), (rn : Int), (rm : Int), ra, imm, cond, wide⟩ = ⟨0, 0, 0, false⟩ by simp only [Cs.access, hz, o19, o20, o21, o22, Bool.false_eq_true, if_false], show Cs.accessB ⟨op, (rd : Int), (rn : Int), (rm : Int), ra, imm, cond, wide⟩ = false by simp [Cs.accessB, Cs.mem, o19, o20, o21, o22]]
 rfl
end Go.Proofs.YthciobjklhkkcaaGreat
end
section
namespace Go.Proofs.YthciobjklhkkcaaGreat
open Go.ChangeShapes Go.WideShapes Go.ChangeAt Go.RowKit
set_option maxHeartbeats 4000000
set_option maxRecDepth 100000
set_option linter.unusedVariables false

abbrev insV (i : Th.Ins) : Value := .agg #[.int .i64 i.op, .int .i64 i.rd, .int .i64 i.rn, .int .i64 i.rm, .int .i64 i.ra, .int .i64 i.imm, .int .i64 i.cond, .bool i.wide]
theorem sh64 (v p : Nat) (P : Int) (hP : (p : Int) = P) (h : v * p < 4294967296) : wrap64 ((v : Int) * P) = ((v * p : Nat) : Int) := by
 rw [← hP, ← Int.natCast_mul, Wd.wrap64_in _ (by omega) (by omega)]
theorem or64 (n v t c p q : Nat) (P : Int) (hP : (p : Int) = P) (hp : 2 ^ t = p) (hq : 2 ^ c = q) (hv : v < q) (hn : n < 4294967296) (hl : v * p < 4294967296) (h : n / p % q = 0) : bits .or .i64 (n : Int) (wrap64 ((v : Int) * P)) = ((n + v * p : Nat) : Int) := by
 rw [sh64 v p P hP hl, Wd.or_nat n _ hn hl]
 subst hp; subst hq
 rw [Th.or_add n v t c hv h]
theorem or64' (n v c q : Nat) (hq : 2 ^ c = q) (hv : v < q) (hn : n < 4294967296) (hl : v < 4294967296) (h : n % q = 0) : bits .or .i64 (n : Int) (v : Int) = ((n + v : Nat) : Int) := by
 rw [Wd.or_nat n _ hn hl]
 subst hq
 have := Th.or_add n v 0 c hv (by simpa [Nat.mod_one] using h)
 simp at this
 rw [this]
theorem or_imm16 (p0 p1 p2 p3 : Nat) (h0 : p0 < 16) (h1 : p1 < 2) (h2 : p2 < 8) (h3 : p3 < 256) : (bits .or .i64 (bits .or .i64 (bits .or .i64 (wrap64 (((p0 : Nat) : Int) * 4096)) (wrap64 (((p1 : Nat) : Int) * 2048))) (wrap64 (((p2 : Nat) : Int) * 256))) (((p3 : Nat) : Int))) = ((p0 * 4096 + p1 * 2048 + p2 * 256 + p3 : Nat) : Int) := by
 rw [sh64 (p0) 4096 4096 rfl (by omega), or64 _ (p1) 11 1 2048 2 2048 rfl (by decide) (by decide) (by omega) (by omega) (by omega) (by omega), or64 _ (p2) 8 3 256 8 256 rfl (by decide) (by decide) (by omega) (by omega) (by omega) (by omega), or64' _ (p3) 8 256 (by decide) (by omega) (by omega) (by omega) (by omega)]
theorem or_shift (p0 p1 : Nat) (h0 : p0 < 8) (h1 : p1 < 4) : (bits .or .i64 (wrap64 (((p0 : Nat) : Int) * 4)) (((p1 : Nat) : Int))) = ((p0 * 4 + p1 : Nat) : Int) := by
 rw [sh64 (p0) 4 4 rfl (by omega), or64' _ (p1) 2 4 (by decide) (by omega) (by omega) (by omega) (by omega)]
theorem or_b24w (p0 p1 p2 p3 p4 : Nat) (h0 : p0 < 2) (h1 : p1 < 2) (h2 : p2 < 2) (h3 : p3 < 1024) (h4 : p4 < 2048) : (bits .or .i64 (bits .or .i64 (bits .or .i64 (bits .or .i64 (wrap64 (((p0 : Nat) : Int) * 16777216)) (wrap64 (((p1 : Nat) : Int) * 8388608))) (wrap64 (((p2 : Nat) : Int) * 4194304))) (wrap64 (((p3 : Nat) : Int) * 4096))) (wrap64 (((p4 : Nat) : Int) * 2))) = ((p0 * 16777216 + p1 * 8388608 + p2 * 4194304 + p3 * 4096 + p4 * 2 : Nat) : Int) := by
 rw [sh64 (p0) 16777216 16777216 rfl (by omega), or64 _ (p1) 23 1 8388608 2 8388608 rfl (by decide) (by decide) (by omega) (by omega) (by omega) (by omega), or64 _ (p2) 22 1 4194304 2 4194304 rfl (by decide) (by decide) (by omega) (by omega) (by omega) (by omega), or64 _ (p3) 12 10 4096 1024 4096 rfl (by decide) (by decide) (by omega) (by omega) (by omega) (by omega), or64 _ (p4) 1 11 2 2048 2 rfl (by decide) (by decide) (by omega) (by omega) (by omega) (by omega)]
theorem or_b24n (p0 : Nat) (h0 : p0 < 2048) : (wrap64 (((p0 : Nat) : Int) * 2)) = ((p0 * 2 : Nat) : Int) := by
 rw [sh64 (p0) 2 2 rfl (by omega)]
theorem or_b25w (p0 p1 p2 p3 p4 : Nat) (h0 : p0 < 2) (h1 : p1 < 2) (h2 : p2 < 2) (h3 : p3 < 64) (h4 : p4 < 2048) : (bits .or .i64 (bits .or .i64 (bits .or .i64 (bits .or .i64 (wrap64 (((p0 : Nat) : Int) * 1048576)) (wrap64 (((p1 : Nat) : Int) * 524288))) (wrap64 (((p2 : Nat) : Int) * 262144))) (wrap64 (((p3 : Nat) : Int) * 4096))) (wrap64 (((p4 : Nat) : Int) * 2))) = ((p0 * 1048576 + p1 * 524288 + p2 * 262144 + p3 * 4096 + p4 * 2 : Nat) : Int) := by
 rw [sh64 (p0) 1048576 1048576 rfl (by omega), or64 _ (p1) 19 1 524288 2 524288 rfl (by decide) (by decide) (by omega) (by omega) (by omega) (by omega), or64 _ (p2) 18 1 262144 2 262144 rfl (by decide) (by decide) (by omega) (by omega) (by omega) (by omega), or64 _ (p3) 12 6 4096 64 4096 rfl (by decide) (by decide) (by omega) (by omega) (by omega) (by omega), or64 _ (p4) 1 11 2 2048 2 rfl (by decide) (by decide) (by omega) (by omega) (by omega) (by omega)]
theorem or_b25n (p0 : Nat) (h0 : p0 < 256) : (wrap64 (((p0 : Nat) : Int) * 2)) = ((p0 * 2 : Nat) : Int) := by
 rw [sh64 (p0) 2 2 rfl (by omega)]
theorem shift_any (x : Nat) (w : World) (hx : x < 4294967296) :
  Calls Tryz.prog 143 #[.int .u32 (x : Int)] w fun e w' => e = .returned (.int .i64 (De.shift x : Int)) ∧ ∃ n, w' = w.drewN n := by
 have b0 : De.pt x 12 3 < 8 := De.pt_lt x _ 3
 have b1 : De.pt x 6 2 < 4 := De.pt_lt x _ 2
 have hT : Hid (De.shift x < 32) := Lib.hid (by unfold De.shift; omega)
 have hI : (bits .or .i64 (wrap64 (((De.pt x 12 3 : Nat) : Int) * 4)) (((De.pt x 6 2 : Nat) : Int))) = ((De.shift x : Nat) : Int) := or_shift (De.pt x 12 3) (De.pt x 6 2) b0 b1
 clear b0 b1
 go_enter Tryz.func143, Tryz.ntmps143
 go_wp2_with (go_at_call 142; refine (part_int _ _ _ _ hx (by decide) (by decide) (by decide) (by decide)).mono ?_; rintro e w' ⟨rfl, n, rfl⟩)
 go_ret
 exact ⟨rfl, _, rfl⟩
theorem signed_int (n : Nat) (c : Int) (w : World) (hn : n < 4294967296) (h0 : 1 ≤ c) (hc : c ≤ 31) :
  Calls Tryz.prog 164 #[.int .i64 (n : Int), .int .i64 c] w fun e w' => e = .returned (.int .i64 (De.signed n c.toNat)) ∧ w = w' := by
 obtain ⟨c, rfl⟩ := Int.eq_ofNat_of_zero_le (show 0 ≤ c by omega)
 exact signed_any n c w hn (by omega) (by omega)
theorem readb24w (x : Nat) (w : World) (hx : x < 4294967296) (hw : 65536 ≤ x) :
  Calls Tryz.prog 144 #[.int .i64 24, .int .u32 (x : Int)] w fun e w' => e = .returned (.agg #[.int .i64 24, .int .i64 (0), .int .i64 (0), .int .i64 (0), .int .i64 (0), .int .i64 (De.signed (De.b24w x) 25), .int .i64 (0), .bool true]) ∧ Below w.heap.size w w' := by
 have b0 : De.pt x 26 1 < 2 := De.pt_lt x _ 1
 have b1 : De.alike (De.pt x 13 1) (De.pt x 26 1) < 2 := De.alike_lt _ _
 have b2 : De.alike (De.pt x 11 1) (De.pt x 26 1) < 2 := De.alike_lt _ _
 have b3 : De.pt x 16 10 < 1024 := De.pt_lt x _ 10
 have b4 : De.pt x 0 11 < 2048 := De.pt_lt x _ 11
 have hT : Hid (De.b24w x < 33554432) := Lib.hid (by unfold De.b24w; omega)
 have hI : (bits .or .i64 (bits .or .i64 (bits .or .i64 (bits .or .i64 (wrap64 (((De.pt x 26 1 : Nat) : Int) * 16777216)) (wrap64 (((De.alike (De.pt x 13 1) (De.pt x 26 1) : Nat) : Int) * 8388608))) (wrap64 (((De.alike (De.pt x 11 1) (De.pt x 26 1) : Nat) : Int) * 4194304))) (wrap64 (((De.pt x 16 10 : Nat) : Int) * 4096))) (wrap64 (((De.pt x 0 11 : Nat) : Int) * 2))) = ((De.b24w x : Nat) : Int) := or_b24w (De.pt x 26 1) (De.alike (De.pt x 13 1) (De.pt x 26 1)) (De.alike (De.pt x 11 1) (De.pt x 26 1)) (De.pt x 16 10) (De.pt x 0 11) b0 b1 b2 b3 b4
 clear b0 b1 b2 b3 b4
 have q1 : ((x : Int) / 65536 != 0) = true := by simp; omega
 have q2 : ((x : Int) / 65536 == 0) = false := by simp; omega
 go_enter Tryz.func144, Tryz.ntmps144
 go_wp2_with (first | (go_at_call 142; refine (part_int _ _ _ _ hx (by decide) (by decide) (by decide) (by decide)).mono ?_; rintro e w' ⟨rfl, n, rfl⟩) | (go_at_call 165; refine (alike_any _ _ _ (De.pt_lt _ _ 1) (De.pt_lt _ _ 1)).mono ?_; rintro e w' ⟨rfl, rfl⟩) | (go_at_call 164; refine (signed_int _ _ _ (by have := hT.out; omega) (by decide) (by decide)).mono ?_; rintro e w' ⟨rfl, rfl⟩))
 exact bodyPost_ret (v := (.agg #[.int .i64 24, .int .i64 (0), .int .i64 (0), .int .i64 (0), .int .i64 (0), .int .i64 (De.signed (De.b24w x) 25), .int .i64 (0), .bool true])) (by simp [results, Tryz.results144, go_sem]) rfl ⟨rfl, by (go_grown; (try (refine below_drewN ?_ _; go_grown; (try (refine below_drewN ?_ _; go_grown; (try (refine below_drewN ?_ _; go_grown)))))))⟩
theorem readb24n (x : Nat) (w : World) (hx : x < 4294967296) (hw : x < 65536) :
  Calls Tryz.prog 144 #[.int .i64 24, .int .u32 (x : Int)] w fun e w' => e = .returned (.agg #[.int .i64 24, .int .i64 (0), .int .i64 (0), .int .i64 (0), .int .i64 (0), .int .i64 (De.signed (De.b24n x) 12), .int .i64 (0), .bool false]) ∧ Below w.heap.size w w' := by
 have b0 : De.pt x 0 11 < 2048 := De.pt_lt x _ 11
 have hT : Hid (De.b24n x < 4096) := Lib.hid (by unfold De.b24n; omega)
 have hI : (wrap64 (((De.pt x 0 11 : Nat) : Int) * 2)) = ((De.b24n x : Nat) : Int) := or_b24n (De.pt x 0 11) b0
 clear b0
 have q1 : ((x : Int) / 65536 != 0) = false := by simp; omega
 have q2 : ((x : Int) / 65536 == 0) = true := by simp; omega
 go_enter Tryz.func144, Tryz.ntmps144
 go_wp2_with (first | (go_at_call 142; refine (part_int _ _ _ _ hx (by decide) (by decide) (by decide) (by decide)).mono ?_; rintro e w' ⟨rfl, n, rfl⟩) | (go_at_call 165; refine (alike_any _ _ _ (De.pt_lt _ _ 1) (De.pt_lt _ _ 1)).mono ?_; rintro e w' ⟨rfl, rfl⟩) | (go_at_call 164; refine (signed_int _ _ _ (by have := hT.out; omega) (by decide) (by decide)).mono ?_; rintro e w' ⟨rfl, rfl⟩))
 exact bodyPost_ret (v := (.agg #[.int .i64 24, .int .i64 (0), .int .i64 (0), .int .i64 (0), .int .i64 (0), .int .i64 (De.signed (De.b24n x) 12), .int .i64 (0), .bool false])) (by simp [results, Tryz.results144, go_sem]) rfl ⟨rfl, by (go_grown; (try (refine below_drewN ?_ _; go_grown; (try (refine below_drewN ?_ _; go_grown; (try (refine below_drewN ?_ _; go_grown)))))))⟩
theorem readb25w (x : Nat) (w : World) (hx : x < 4294967296) (hw : 65536 ≤ x) :
  Calls Tryz.prog 144 #[.int .i64 25, .int .u32 (x : Int)] w fun e w' => e = .returned (.agg #[.int .i64 25, .int .i64 (0), .int .i64 (0), .int .i64 (0), .int .i64 (0), .int .i64 (De.signed (De.b25w x) 21), .int .i64 (((De.pt x 22 4 : Nat) : Int)), .bool true]) ∧ Below w.heap.size w w' := by
 have b0 : De.pt x 26 1 < 2 := De.pt_lt x _ 1
 have b1 : De.pt x 11 1 < 2 := De.pt_lt x _ 1
 have b2 : De.pt x 13 1 < 2 := De.pt_lt x _ 1
 have b3 : De.pt x 16 6 < 64 := De.pt_lt x _ 6
 have b4 : De.pt x 0 11 < 2048 := De.pt_lt x _ 11
 have hT : Hid (De.b25w x < 2097152) := Lib.hid (by unfold De.b25w; omega)
 have hI : (bits .or .i64 (bits .or .i64 (bits .or .i64 (bits .or .i64 (wrap64 (((De.pt x 26 1 : Nat) : Int) * 1048576)) (wrap64 (((De.pt x 11 1 : Nat) : Int) * 524288))) (wrap64 (((De.pt x 13 1 : Nat) : Int) * 262144))) (wrap64 (((De.pt x 16 6 : Nat) : Int) * 4096))) (wrap64 (((De.pt x 0 11 : Nat) : Int) * 2))) = ((De.b25w x : Nat) : Int) := or_b25w (De.pt x 26 1) (De.pt x 11 1) (De.pt x 13 1) (De.pt x 16 6) (De.pt x 0 11) b0 b1 b2 b3 b4
 clear b0 b1 b2 b3 b4
 have q1 : ((x : Int) / 65536 != 0) = true := by simp; omega
 have q2 : ((x : Int) / 65536 == 0) = false := by simp; omega
 go_enter Tryz.func144, Tryz.ntmps144
 go_wp2_with (first | (go_at_call 142; refine (part_int _ _ _ _ hx (by decide) (by decide) (by decide) (by decide)).mono ?_; rintro e w' ⟨rfl, n, rfl⟩) | (go_at_call 165; refine (alike_any _ _ _ (De.pt_lt _ _ 1) (De.pt_lt _ _ 1)).mono ?_; rintro e w' ⟨rfl, rfl⟩) | (go_at_call 164; refine (signed_int _ _ _ (by have := hT.out; omega) (by decide) (by decide)).mono ?_; rintro e w' ⟨rfl, rfl⟩))
 exact bodyPost_ret (v := (.agg #[.int .i64 25, .int .i64 (0), .int .i64 (0), .int .i64 (0), .int .i64 (0), .int .i64 (De.signed (De.b25w x) 21), .int .i64 (((De.pt x 22 4 : Nat) : Int)), .bool true])) (by simp [results, Tryz.results144, go_sem]) rfl ⟨rfl, by (go_grown; (try (refine below_drewN ?_ _; go_grown; (try (refine below_drewN ?_ _; go_grown; (try (refine below_drewN ?_ _; go_grown)))))))⟩
theorem readb25n (x : Nat) (w : World) (hx : x < 4294967296) (hw : x < 65536) :
  Calls Tryz.prog 144 #[.int .i64 25, .int .u32 (x : Int)] w fun e w' => e = .returned (.agg #[.int .i64 25, .int .i64 (0), .int .i64 (0), .int .i64 (0), .int .i64 (0), .int .i64 (De.signed (De.b25n x) 9), .int .i64 (((De.pt x 8 4 : Nat) : Int)), .bool false]) ∧ Below w.heap.size w w' := by
 have b0 : De.pt x 0 8 < 256 := De.pt_lt x _ 8
 have hT : Hid (De.b25n x < 512) := Lib.hid (by unfold De.b25n; omega)
 have hI : (wrap64 (((De.pt x 0 8 : Nat) : Int) * 2)) = ((De.b25n x : Nat) : Int) := or_b25n (De.pt x 0 8) b0
 clear b0
 have q1 : ((x : Int) / 65536 != 0) = false := by simp; omega
 have q2 : ((x : Int) / 65536 == 0) = true := by simp; omega
 go_enter Tryz.func144, Tryz.ntmps144
 go_wp2_with (first | (go_at_call 142; refine (part_int _ _ _ _ hx (by decide) (by decide) (by decide) (by decide)).mono ?_; rintro e w' ⟨rfl, n, rfl⟩) | (go_at_call 165; refine (alike_any _ _ _ (De.pt_lt _ _ 1) (De.pt_lt _ _ 1)).mono ?_; rintro e w' ⟨rfl, rfl⟩) | (go_at_call 164; refine (signed_int _ _ _ (by have := hT.out; omega) (by decide) (by decide)).mono ?_; rintro e w' ⟨rfl, rfl⟩))
 exact bodyPost_ret (v := (.agg #[.int .i64 25, .int .i64 (0), .int .i64 (0), .int .i64 (0), .int .i64 (0), .int .i64 (De.signed (De.b25n x) 9), .int .i64 (((De.pt x 8 4 : Nat) : Int)), .bool false])) (by simp [results, Tryz.results144, go_sem]) rfl ⟨rfl, by (go_grown; (try (refine below_drewN ?_ _; go_grown; (try (refine below_drewN ?_ _; go_grown; (try (refine below_drewN ?_ _; go_grown)))))))⟩
end Go.Proofs.YthciobjklhkkcaaGreat
end
