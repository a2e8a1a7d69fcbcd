/-
  What Access and Cycles of package cpu, and of the document, return.
-/
import Derived.Test.YtennhpfhgbmnfaaCpuD
import Derived.Test.YtennhpfhgbmnfaaCpuT
namespace Go.Proofs.Ytennhpfhgbmnfaa
open Go.ChangeShapes Go.WideShapes Go.ChangeAt Go.RowKit
set_option linter.unusedVariables false
set_option linter.unusedSimpArgs false

theorem beq_of_bne {a : Int} (h : (a != 0) = true) : (a == 0) = false := by simpa using h
theorem beq_of_bnf {a : Int} (h : (a != 0) = false) : a = 0 := by simpa using h
/-- an access in four cells of a block, that may be written -/
def AccAt (W : World) (b : Nat) (a : Cs.Acc) : Prop := W.heap[b]? = some (.cells #[.int .i64 a.addr, .int .i64 a.size, .int .i64 a.value, .bool a.write] 32 (0, 0))
section
variable {W W' : World} {b : Nat} {a : Cs.Acc}
theorem AccAt.lt (h : AccAt W b a) : b < W.heap.size := (Array.getElem?_eq_some_iff.1 h).1
theorem AccAt.below (h : AccAt W b a) (hb : Below W.heap.size W W') : AccAt W' b a := by unfold AccAt; rw [hb.block b h.lt]; exact h
theorem AccAt.open (h : AccAt W b a) (k : Nat) : W.frozen? ⟨b, k, none⟩ = false := by unfold AccAt at h; simp [World.frozen?, h]
theorem AccAt.c0 (h : AccAt W b a) : W.cell? ⟨b, 0, none⟩ = some (.int .i64 a.addr) := cell_of_row W b 0 _ _ _ h
theorem AccAt.c1 (h : AccAt W b a) : W.cell? ⟨b, 1, none⟩ = some (.int .i64 a.size) := cell_of_row W b 1 _ _ _ h
theorem AccAt.c2 (h : AccAt W b a) : W.cell? ⟨b, 2, none⟩ = some (.int .i64 a.value) := cell_of_row W b 2 _ _ _ h
theorem AccAt.c3 (h : AccAt W b a) : W.cell? ⟨b, 3, none⟩ = some (.bool a.write) := cell_of_row W b 3 _ _ _ h
end
theorem info_acc : (Try.prog.info? 32).map (·.size) = some 4 := by kernel_rfl
theorem AccAt.row {W : World} {b : Nat} {a : Cs.Acc} (h : AccAt W b a) (x y z : Int) (v : Bool) : AccAt (W.setRow b #[.int .i64 x, .int .i64 y, .int .i64 z, .bool v]) b ⟨x, y, z, v⟩ := setRow_heap W b _ _ _ _ h
theorem wpList_store_acc {ops : Array Oper} {rest : List Oper} {o : Oper} {a : Act} {w : World} {Q : Exit → Act → World → Prop} {b : Nat} {a0 : Cs.Acc} (h : AccAt w b a0) (x y z : Int) (v : Bool) (ho : stOf a o = some (32, .pointer (some ⟨b, 0, none⟩), .agg #[.int .i64 x, .int .i64 y, .int .i64 z, .bool v]))
    (k : wpList Try.prog ops Q rest (a.put o.dst undef) (w.setRow b #[.int .i64 x, .int .i64 y, .int .i64 z, .bool v])) : wpList Try.prog ops Q (o :: rest) a w := by
  obtain ⟨hg, p, q, ho, hx, hy⟩ := stOf_eq ho
  exact wpList_plain hg fun _ hK => wp_store_row _ p q ho b _ hx hy _ _ h info_acc rfl (by simp [Value.oneCell']) (hK _ _ k)
theorem wpList_load_acc {ops : Array Oper} {rest : List Oper} {o : Oper} {a : Act} {w : World} {Q : Exit → Act → World → Prop} {b : Nat} {c : Cs.Acc} (h : AccAt w b c) (ho : ldOf a o = some (32, .pointer (some ⟨b, 0, none⟩)))
    (k : wpList Try.prog ops Q rest (a.put o.dst (.agg #[.int .i64 c.addr, .int .i64 c.size, .int .i64 c.value, .bool c.write])) w) : wpList Try.prog ops Q (o :: rest) a w := by
  obtain ⟨hg, x, ho, hx⟩ := ldOf_eq ho
  exact wpList_load_row hg _ x ho b hx _ _ _ _ h Try.underlying32 rfl info_acc k
theorem bp_acc2 {fn : Func} {R : Ending → World → Prop} {a : Act} {w : World} {p q : Tmp} {b : Nat} {c : Cs.Acc} (hr : fn.results = #[.cell p 32, .tmp q]) (hp : a.tmps.getD p undef = .pointer (some ⟨b, 0, none⟩)) (h : AccAt w b c) (hd : a.defers = [])
    (hR : R (.returned (.tuple #[.agg #[.int .i64 c.addr, .int .i64 c.size, .int .i64 c.value, .bool c.write], a.tmps.getD q undef])) w) : bodyPost Try.prog fn R .ret a w := by
  have hp' : a.tmps[p]?.getD undef = .pointer (some ⟨b, 0, none⟩) := by simpa using hp
  refine bodyPost_ret ?_ hd hR
  simp [results, hr, hp', asAddr, run_loadVar_row w b _ _ _ _ _ h Try.underlying32 rfl info_acc]
/-- a state, an instruction and an access in three blocks -/
structure CpuA (w : World) (n : Nat) (W : World) (s : Cs.St) (op rd rn rm ra imm cond : Int) (wide : Bool) : Prop where
  st : StateAt W n s
  ins : InsAt W (n + 1) op rd rn rm ra imm cond wide
  res : AccAt W (n + 1 + 1) ⟨0, 0, 0, false⟩
  bel : Below n w W
section
variable {w W W' : World} {n : Nat} {s : Cs.St} {op rd rn rm ra imm cond : Int} {wide : Bool}
theorem CpuA.kept (h : CpuA w n W s op rd rn rm ra imm cond wide) (hb : Below W.heap.size W W') : CpuA w n W' s op rd rn rm ra imm cond wide := by
  have := h.res.lt
  exact ⟨h.st.below hb, h.ins.below hb (by omega), h.res.below hb, h.bel.trans (hb.mono (by omega))⟩
theorem CpuA.new (w : World) (s : Cs.St) (op rd rn rm ra imm cond : Int) (wide : Bool) :
    CpuA w w.heap.size (((w.alloc (.cells (Cs.cells s) 24)).alloc (.cells #[.int .i64 op, .int .i64 rd, .int .i64 rn, .int .i64 rm, .int .i64 ra, .int .i64 imm, .int .i64 cond, .bool wide] 26)).alloc (.cells #[.int .i64 0, .int .i64 0, .int .i64 0, .bool false] 32)) s op rd rn rm ra imm cond wide := by
  refine ⟨((state_alloc w s).alloc _).alloc _, ?_, ?_, (((Below.refl _ _).alloc (Nat.le_refl _) _).alloc (by simp) _).alloc (by simp; omega) _⟩
  · refine InsAt.alloc ?_ (by simp) _
    have h := ins_alloc (w.alloc (.cells (Cs.cells s) 24)) 26 op rd rn rm ra imm cond wide
    simpa using h
  · have h := heap_alloc_last ((w.alloc (.cells (Cs.cells s) 24)).alloc (.cells #[.int .i64 op, .int .i64 rd, .int .i64 rn, .int .i64 rm, .int .i64 ra, .int .i64 imm, .int .i64 cond, .bool wide] 26)) (.cells #[.int .i64 0, .int .i64 0, .int .i64 0, .bool false] 32)
    unfold AccAt
    simpa using h
end

set_option maxHeartbeats 4000000 in
set_option maxRecDepth 10000 in
theorem access_a (s : Cs.St) (op rd rn rm ra imm cond : Int) (wide : Bool) (w : World) (hz : (Th.check ⟨op, rd, rn, rm, ra, imm, cond, wide⟩ != 0) = true) :
    Calls Try.prog 12 #[.agg (Cs.cells s), .agg #[.int .i64 op, .int .i64 rd, .int .i64 rn, .int .i64 rm, .int .i64 ra, .int .i64 imm, .int .i64 cond, .bool wide]] w fun e w' => e = .returned (.tuple #[.agg #[.int .i64 (Cs.access s ⟨op, rd, rn, rm, ra, imm, cond, wide⟩).addr, .int .i64 (Cs.access s ⟨op, rd, rn, rm, ra, imm, cond, wide⟩).size, .int .i64 (Cs.access s ⟨op, rd, rn, rm, ra, imm, cond, wide⟩).value, .bool (Cs.access s ⟨op, rd, rn, rm, ra, imm, cond, wide⟩).write], .bool (Cs.accessB ⟨op, rd, rn, rm, ra, imm, cond, wide⟩)]) ∧ Below w.heap.size w w' := by
  have H := Lib.hid (CpuA.new w s op rd rn rm ra imm cond wide)
  go_enter Try.func12, Try.ntmps12
  go_wp2_with (first | (go_at_call 18; refine (check_any _ _ _ _ _ _ _ _ _).mono ?_; rintro e w1 ⟨rfl, hb⟩; replace H := Lib.hid (H.out.kept hb); obtain ⟨i0, i1, i2, i3, i4, i5, i6, i7⟩ := H.out.ins; have a0 := H.out.res.c0; have a1 := H.out.res.c1; have a2 := H.out.res.c2; have a3 := H.out.res.c3; have af := H.out.res.open; clear hb) | ((with_reducible apply wpList_store_acc H.out.res); exact rfl))
  try simp only [Exit.inBlock, Exit.then]
  refine bp_acc2 rfl rfl (H.out.res.row _ _ _ _) rfl ⟨?_, below_setRow H.out.bel (by omega) _⟩
  rw [show Cs.access s ⟨op, rd, rn, rm, ra, imm, cond, wide⟩ = ⟨0, 0, 0, false⟩ by simp only [Cs.access, hz, if_true], show Cs.accessB ⟨op, rd, rn, rm, ra, imm, cond, wide⟩ = false by simp [Cs.accessB, beq_of_bne hz]]
  rfl
set_option maxHeartbeats 4000000 in
set_option maxRecDepth 10000 in
theorem access_19 (s : Cs.St) (rd rn rm : Nat) (ra imm cond : Int) (wide : Bool) (w : World) (hd : rd < 13) (hn : rn < 13) (hz : (Th.check ⟨19, (rd : Int), (rn : Int), (rm : Int), ra, imm, cond, wide⟩ != 0) = false)  :
    Calls Try.prog 12 #[.agg (Cs.cells s), .agg #[.int .i64 19, .int .i64 (rd : Int), .int .i64 (rn : Int), .int .i64 (rm : Int), .int .i64 ra, .int .i64 imm, .int .i64 cond, .bool wide]] w fun e w' => e = .returned (.tuple #[.agg #[.int .i64 (Cs.access s ⟨19, (rd : Int), (rn : Int), (rm : Int), ra, imm, cond, wide⟩).addr, .int .i64 (Cs.access s ⟨19, (rd : Int), (rn : Int), (rm : Int), ra, imm, cond, wide⟩).size, .int .i64 (Cs.access s ⟨19, (rd : Int), (rn : Int), (rm : Int), ra, imm, cond, wide⟩).value, .bool (Cs.access s ⟨19, (rd : Int), (rn : Int), (rm : Int), ra, imm, cond, wide⟩).write], .bool (Cs.accessB ⟨19, (rd : Int), (rn : Int), (rm : Int), ra, imm, cond, wide⟩)]) ∧ Below w.heap.size w w' := by
  have bd : (rd : Int) < 15 := by omega
  have bn : (rn : Int) < 15 := by omega
  have bd0 : (0 : Int) ≤ (rd : Int) := by omega
  have bn0 : (0 : Int) ≤ (rn : Int) := by omega
  have H := Lib.hid (CpuA.new w s 19 (rd : Int) (rn : Int) (rm : Int) ra imm cond wide)
  go_enter Try.func12, Try.ntmps12
  go_wp2_with (first | (go_at_call 18; refine (check_any _ _ _ _ _ _ _ _ _).mono ?_; rintro e w1 ⟨rfl, hb⟩; replace H := Lib.hid (H.out.kept hb); obtain ⟨i0, i1, i2, i3, i4, i5, i6, i7⟩ := H.out.ins; have a0 := H.out.res.c0; have a1 := H.out.res.c1; have a2 := H.out.res.c2; have a3 := H.out.res.c3; have af := H.out.res.open; clear hb))
  have sd := H.out.st.reg rd (by omega)
  have sn := H.out.st.reg rn (by omega)
  go_quiet (first | (go_at_call 36; refine Calls.quiet_of_same (still (wrap_any _ _))))
  replace H := Lib.hid (H.out.kept (below_drewC (Below.refl _ _) nq))
  clear i0 i1 i2 i3 i4 i5 i6 i7 a0 a1 a2 a3 af sd sn
  generalize World.drewN _ nq = U at *
  obtain ⟨i0, i1, i2, i3, i4, i5, i6, i7⟩ := H.out.ins; have a0 := H.out.res.c0; have a1 := H.out.res.c1; have a2 := H.out.res.c2; have a3 := H.out.res.c3; have af := H.out.res.open
  go_wp2_with (first | (go_at_call 37; refine (and_any _ _ _).mono ?_; rintro e w' ⟨rfl, rfl⟩) | ((with_reducible apply wpList_store_acc H.out.res); exact rfl))
  try simp only [Exit.inBlock, Exit.then]
  refine bp_acc2 rfl rfl (H.out.res.row _ _ _ _) rfl ⟨?_, below_setRow H.out.bel (by omega) _⟩
  rw [show Cs.access s ⟨19, (rd : Int), (rn : Int), (rm : Int), ra, imm, cond, wide⟩ = ⟨Wd.wrap (s.r rn), 4, 0, false⟩ by simp only [Cs.access, hz, Bool.false_eq_true, if_false]; rfl, show Cs.accessB ⟨19, (rd : Int), (rn : Int), (rm : Int), ra, imm, cond, wide⟩ = true by simp [Cs.accessB, Cs.mem, beq_of_bnf hz]]
  rfl
set_option maxHeartbeats 4000000 in
set_option maxRecDepth 10000 in
theorem access_21 (s : Cs.St) (rd rn rm : Nat) (ra imm cond : Int) (wide : Bool) (w : World) (hd : rd < 13) (hn : rn < 13) (hz : (Th.check ⟨21, (rd : Int), (rn : Int), (rm : Int), ra, imm, cond, wide⟩ != 0) = false)  :
    Calls Try.prog 12 #[.agg (Cs.cells s), .agg #[.int .i64 21, .int .i64 (rd : Int), .int .i64 (rn : Int), .int .i64 (rm : Int), .int .i64 ra, .int .i64 imm, .int .i64 cond, .bool wide]] w fun e w' => e = .returned (.tuple #[.agg #[.int .i64 (Cs.access s ⟨21, (rd : Int), (rn : Int), (rm : Int), ra, imm, cond, wide⟩).addr, .int .i64 (Cs.access s ⟨21, (rd : Int), (rn : Int), (rm : Int), ra, imm, cond, wide⟩).size, .int .i64 (Cs.access s ⟨21, (rd : Int), (rn : Int), (rm : Int), ra, imm, cond, wide⟩).value, .bool (Cs.access s ⟨21, (rd : Int), (rn : Int), (rm : Int), ra, imm, cond, wide⟩).write], .bool (Cs.accessB ⟨21, (rd : Int), (rn : Int), (rm : Int), ra, imm, cond, wide⟩)]) ∧ Below w.heap.size w w' := by
  have bd : (rd : Int) < 15 := by omega
  have bn : (rn : Int) < 15 := by omega
  have bd0 : (0 : Int) ≤ (rd : Int) := by omega
  have bn0 : (0 : Int) ≤ (rn : Int) := by omega
  have H := Lib.hid (CpuA.new w s 21 (rd : Int) (rn : Int) (rm : Int) ra imm cond wide)
  go_enter Try.func12, Try.ntmps12
  go_wp2_with (first | (go_at_call 18; refine (check_any _ _ _ _ _ _ _ _ _).mono ?_; rintro e w1 ⟨rfl, hb⟩; replace H := Lib.hid (H.out.kept hb); obtain ⟨i0, i1, i2, i3, i4, i5, i6, i7⟩ := H.out.ins; have a0 := H.out.res.c0; have a1 := H.out.res.c1; have a2 := H.out.res.c2; have a3 := H.out.res.c3; have af := H.out.res.open; clear hb))
  have sd := H.out.st.reg rd (by omega)
  have sn := H.out.st.reg rn (by omega)
  go_quiet (first | (go_at_call 36; refine Calls.quiet_of_same (still (wrap_any _ _))))
  replace H := Lib.hid (H.out.kept (below_drewC (Below.refl _ _) nq))
  clear i0 i1 i2 i3 i4 i5 i6 i7 a0 a1 a2 a3 af sd sn
  generalize World.drewN _ nq = U at *
  obtain ⟨i0, i1, i2, i3, i4, i5, i6, i7⟩ := H.out.ins; have a0 := H.out.res.c0; have a1 := H.out.res.c1; have a2 := H.out.res.c2; have a3 := H.out.res.c3; have af := H.out.res.open
  go_wp2_with (first | (go_at_call 37; refine (and_any _ _ _).mono ?_; rintro e w' ⟨rfl, rfl⟩) | ((with_reducible apply wpList_store_acc H.out.res); exact rfl))
  try simp only [Exit.inBlock, Exit.then]
  refine bp_acc2 rfl rfl (H.out.res.row _ _ _ _) rfl ⟨?_, below_setRow H.out.bel (by omega) _⟩
  rw [show Cs.access s ⟨21, (rd : Int), (rn : Int), (rm : Int), ra, imm, cond, wide⟩ = ⟨Wd.wrap (s.r rn), 1, 0, false⟩ by simp only [Cs.access, hz, Bool.false_eq_true, if_false]; rfl, show Cs.accessB ⟨21, (rd : Int), (rn : Int), (rm : Int), ra, imm, cond, wide⟩ = true by simp [Cs.accessB, Cs.mem, beq_of_bnf hz]]
  rfl
set_option maxHeartbeats 4000000 in
set_option maxRecDepth 10000 in
theorem access_20 (s : Cs.St) (rd rn rm : Nat) (ra imm cond : Int) (wide : Bool) (w : World) (hd : rd < 13) (hn : rn < 13) (hz : (Th.check ⟨20, (rd : Int), (rn : Int), (rm : Int), ra, imm, cond, wide⟩ != 0) = false)  :
    Calls Try.prog 12 #[.agg (Cs.cells s), .agg #[.int .i64 20, .int .i64 (rd : Int), .int .i64 (rn : Int), .int .i64 (rm : Int), .int .i64 ra, .int .i64 imm, .int .i64 cond, .bool wide]] w fun e w' => e = .returned (.tuple #[.agg #[.int .i64 (Cs.access s ⟨20, (rd : Int), (rn : Int), (rm : Int), ra, imm, cond, wide⟩).addr, .int .i64 (Cs.access s ⟨20, (rd : Int), (rn : Int), (rm : Int), ra, imm, cond, wide⟩).size, .int .i64 (Cs.access s ⟨20, (rd : Int), (rn : Int), (rm : Int), ra, imm, cond, wide⟩).value, .bool (Cs.access s ⟨20, (rd : Int), (rn : Int), (rm : Int), ra, imm, cond, wide⟩).write], .bool (Cs.accessB ⟨20, (rd : Int), (rn : Int), (rm : Int), ra, imm, cond, wide⟩)]) ∧ Below w.heap.size w w' := by
  have bd : (rd : Int) < 15 := by omega
  have bn : (rn : Int) < 15 := by omega
  have bd0 : (0 : Int) ≤ (rd : Int) := by omega
  have bn0 : (0 : Int) ≤ (rn : Int) := by omega
  have H := Lib.hid (CpuA.new w s 20 (rd : Int) (rn : Int) (rm : Int) ra imm cond wide)
  go_enter Try.func12, Try.ntmps12
  go_wp2_with (first | (go_at_call 18; refine (check_any _ _ _ _ _ _ _ _ _).mono ?_; rintro e w1 ⟨rfl, hb⟩; replace H := Lib.hid (H.out.kept hb); obtain ⟨i0, i1, i2, i3, i4, i5, i6, i7⟩ := H.out.ins; have a0 := H.out.res.c0; have a1 := H.out.res.c1; have a2 := H.out.res.c2; have a3 := H.out.res.c3; have af := H.out.res.open; clear hb))
  have sd := H.out.st.reg rd (by omega)
  have sn := H.out.st.reg rn (by omega)
  go_quiet (first | (go_at_call 36; refine Calls.quiet_of_same (still (wrap_any _ _))))
  replace H := Lib.hid (H.out.kept (below_drewC (Below.refl _ _) nq))
  clear i0 i1 i2 i3 i4 i5 i6 i7 a0 a1 a2 a3 af sd sn
  generalize World.drewN _ nq = U at *
  obtain ⟨i0, i1, i2, i3, i4, i5, i6, i7⟩ := H.out.ins; have a0 := H.out.res.c0; have a1 := H.out.res.c1; have a2 := H.out.res.c2; have a3 := H.out.res.c3; have af := H.out.res.open
  go_wp2_with (first | (go_at_call 37; refine (and_any _ _ _).mono ?_; rintro e w' ⟨rfl, rfl⟩) | ((with_reducible apply wpList_store_acc H.out.res); exact rfl))
  try simp only [Exit.inBlock, Exit.then]
  refine bp_acc2 rfl rfl (H.out.res.row _ _ _ _) rfl ⟨?_, below_setRow H.out.bel (by omega) _⟩
  rw [show Cs.access s ⟨20, (rd : Int), (rn : Int), (rm : Int), ra, imm, cond, wide⟩ = ⟨Wd.wrap (s.r rn), 4, Wd.wrap (s.r rd), true⟩ by simp only [Cs.access, hz, Bool.false_eq_true, if_false]; rfl, show Cs.accessB ⟨20, (rd : Int), (rn : Int), (rm : Int), ra, imm, cond, wide⟩ = true by simp [Cs.accessB, Cs.mem, beq_of_bnf hz]]
  rfl
set_option maxHeartbeats 4000000 in
set_option maxRecDepth 10000 in
theorem access_22 (s : Cs.St) (rd rn rm : Nat) (ra imm cond : Int) (wide : Bool) (w : World) (hd : rd < 13) (hn : rn < 13) (hz : (Th.check ⟨22, (rd : Int), (rn : Int), (rm : Int), ra, imm, cond, wide⟩ != 0) = false)  :
    Calls Try.prog 12 #[.agg (Cs.cells s), .agg #[.int .i64 22, .int .i64 (rd : Int), .int .i64 (rn : Int), .int .i64 (rm : Int), .int .i64 ra, .int .i64 imm, .int .i64 cond, .bool wide]] w fun e w' => e = .returned (.tuple #[.agg #[.int .i64 (Cs.access s ⟨22, (rd : Int), (rn : Int), (rm : Int), ra, imm, cond, wide⟩).addr, .int .i64 (Cs.access s ⟨22, (rd : Int), (rn : Int), (rm : Int), ra, imm, cond, wide⟩).size, .int .i64 (Cs.access s ⟨22, (rd : Int), (rn : Int), (rm : Int), ra, imm, cond, wide⟩).value, .bool (Cs.access s ⟨22, (rd : Int), (rn : Int), (rm : Int), ra, imm, cond, wide⟩).write], .bool (Cs.accessB ⟨22, (rd : Int), (rn : Int), (rm : Int), ra, imm, cond, wide⟩)]) ∧ Below w.heap.size w w' := by
  have bd : (rd : Int) < 15 := by omega
  have bn : (rn : Int) < 15 := by omega
  have bd0 : (0 : Int) ≤ (rd : Int) := by omega
  have bn0 : (0 : Int) ≤ (rn : Int) := by omega
  have H := Lib.hid (CpuA.new w s 22 (rd : Int) (rn : Int) (rm : Int) ra imm cond wide)
  go_enter Try.func12, Try.ntmps12
  go_wp2_with (first | (go_at_call 18; refine (check_any _ _ _ _ _ _ _ _ _).mono ?_; rintro e w1 ⟨rfl, hb⟩; replace H := Lib.hid (H.out.kept hb); obtain ⟨i0, i1, i2, i3, i4, i5, i6, i7⟩ := H.out.ins; have a0 := H.out.res.c0; have a1 := H.out.res.c1; have a2 := H.out.res.c2; have a3 := H.out.res.c3; have af := H.out.res.open; clear hb))
  have sd := H.out.st.reg rd (by omega)
  have sn := H.out.st.reg rn (by omega)
  go_quiet (first | (go_at_call 36; refine Calls.quiet_of_same (still (wrap_any _ _))))
  replace H := Lib.hid (H.out.kept (below_drewC (Below.refl _ _) nq))
  clear i0 i1 i2 i3 i4 i5 i6 i7 a0 a1 a2 a3 af sd sn
  generalize World.drewN _ nq = U at *
  obtain ⟨i0, i1, i2, i3, i4, i5, i6, i7⟩ := H.out.ins; have a0 := H.out.res.c0; have a1 := H.out.res.c1; have a2 := H.out.res.c2; have a3 := H.out.res.c3; have af := H.out.res.open
  go_wp2_with (first | (go_at_call 37; refine (and_any _ _ _).mono ?_; rintro e w' ⟨rfl, rfl⟩) | ((with_reducible apply wpList_store_acc H.out.res); exact rfl))
  try simp only [Exit.inBlock, Exit.then]
  refine bp_acc2 rfl rfl (H.out.res.row _ _ _ _) rfl ⟨?_, below_setRow H.out.bel (by omega) _⟩
  rw [show Cs.access s ⟨22, (rd : Int), (rn : Int), (rm : Int), ra, imm, cond, wide⟩ = ⟨Wd.wrap (s.r rn), 1, Wd.and (Wd.wrap (s.r rd)) 255, true⟩ by rw [Cs.strb, Wd.wrap_wrap]; simp only [Cs.access, hz, Bool.false_eq_true, if_false]; rfl, show Cs.accessB ⟨22, (rd : Int), (rn : Int), (rm : Int), ra, imm, cond, wide⟩ = true by simp [Cs.accessB, Cs.mem, beq_of_bnf hz]]
  rfl
set_option maxHeartbeats 4000000 in
set_option maxRecDepth 10000 in
theorem access_o (s : Cs.St) (op : Int) (rd rn rm : Nat) (ra imm cond : Int) (wide : Bool) (w : World) (hd : rd < 13) (hn : rn < 13) (hz : (Th.check ⟨op, (rd : Int), (rn : Int), (rm : Int), ra, imm, cond, wide⟩ != 0) = false) (o19 : (op == 19) = false) (o20 : (op == 20) = false) (o21 : (op == 21) = false) (o22 : (op == 22) = false) :
    Calls Try.prog 12 #[.agg (Cs.cells s), .agg #[.int .i64 op, .int .i64 (rd : Int), .int .i64 (rn : Int), .int .i64 (rm : Int), .int .i64 ra, .int .i64 imm, .int .i64 cond, .bool wide]] w fun e w' => e = .returned (.tuple #[.agg #[.int .i64 (Cs.access s ⟨op, (rd : Int), (rn : Int), (rm : Int), ra, imm, cond, wide⟩).addr, .int .i64 (Cs.access s ⟨op, (rd : Int), (rn : Int), (rm : Int), ra, imm, cond, wide⟩).size, .int .i64 (Cs.access s ⟨op, (rd : Int), (rn : Int), (rm : Int), ra, imm, cond, wide⟩).value, .bool (Cs.access s ⟨op, (rd : Int), (rn : Int), (rm : Int), ra, imm, cond, wide⟩).write], .bool (Cs.accessB ⟨op, (rd : Int), (rn : Int), (rm : Int), ra, imm, cond, wide⟩)]) ∧ Below w.heap.size w w' := by
  have bd : (rd : Int) < 15 := by omega
  have bn : (rn : Int) < 15 := by omega
  have bd0 : (0 : Int) ≤ (rd : Int) := by omega
  have bn0 : (0 : Int) ≤ (rn : Int) := by omega
  have H := Lib.hid (CpuA.new w s op (rd : Int) (rn : Int) (rm : Int) ra imm cond wide)
  go_enter Try.func12, Try.ntmps12
  go_wp2_with (first | (go_at_call 18; refine (check_any _ _ _ _ _ _ _ _ _).mono ?_; rintro e w1 ⟨rfl, hb⟩; replace H := Lib.hid (H.out.kept hb); obtain ⟨i0, i1, i2, i3, i4, i5, i6, i7⟩ := H.out.ins; have a0 := H.out.res.c0; have a1 := H.out.res.c1; have a2 := H.out.res.c2; have a3 := H.out.res.c3; have af := H.out.res.open; clear hb))
  have sd := H.out.st.reg rd (by omega)
  have sn := H.out.st.reg rn (by omega)
  go_quiet (first | (go_at_call 36; refine Calls.quiet_of_same (still (wrap_any _ _))))
  replace H := Lib.hid (H.out.kept (below_drewC (Below.refl _ _) nq))
  clear i0 i1 i2 i3 i4 i5 i6 i7 a0 a1 a2 a3 af sd sn
  generalize World.drewN _ nq = U at *
  obtain ⟨i0, i1, i2, i3, i4, i5, i6, i7⟩ := H.out.ins; have a0 := H.out.res.c0; have a1 := H.out.res.c1; have a2 := H.out.res.c2; have a3 := H.out.res.c3; have af := H.out.res.open
  go_wp2_with (first | (go_at_call 37; refine (and_any _ _ _).mono ?_; rintro e w' ⟨rfl, rfl⟩) | ((with_reducible apply wpList_store_acc H.out.res); exact rfl))
  try simp only [Exit.inBlock, Exit.then]
  refine bp_acc2 rfl rfl (H.out.res.row _ _ _ _) rfl ⟨?_, below_setRow H.out.bel (by omega) _⟩
  rw [show Cs.access s ⟨op, (rd : Int), (rn : Int), (rm : Int), ra, imm, cond, wide⟩ = ⟨0, 0, 0, false⟩ by simp only [Cs.access, hz, o19, o20, o21, o22, Bool.false_eq_true, if_false], show Cs.accessB ⟨op, (rd : Int), (rn : Int), (rm : Int), ra, imm, cond, wide⟩ = false by simp [Cs.accessB, Cs.mem, o19, o20, o21, o22]]
  rfl
end Go.Proofs.Ytennhpfhgbmnfaa
