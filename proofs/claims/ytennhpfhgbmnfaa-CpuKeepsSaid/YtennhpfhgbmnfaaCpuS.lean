/-
  A machine's state that lies in a block of its own; how it is loaded and stored whole, and register by register.
-/
import Derived.Deep.MidRow
import Derived.Deep.WholeRow
import Derived.Deep.QuietTactic
import Derived.Deep.RegionHeld3
import Derived.BigQuiet
import Derived.StillTailTactics
import Derived.Test.YtennhpfhgbmnfaaRows
import Derived.Test.YtennhpfhgbmnfaaCpuM
import Derived.Test.YtennhpfhgbmnfaaCpuW
import Derived.Test.YtennhpfhgbmnfaaThumbC
import Derived.Test.YtennhpfhgbmnfaaThumbS
namespace Go.Proofs.Ytennhpfhgbmnfaa
open Go.ChangeShapes Go.WideShapes Go.ChangeAt Go.RowKit
set_option linter.unusedVariables false

/-- a state in block b -/
def StateAt (w : World) (b : Nat) (s : Cs.St) : Prop := w.heap[b]? = some (.cells (Cs.cells s) 24 (0, 0))
theorem info_state : (Try.prog.info? 24).map (·.size) = some 20 := by kernel_rfl
theorem zero_state : (Try.prog.info? 24).map (fun i => (i.zero, i.size)) = some (some (.agg (Cs.cells Cs.none)), 20) := by kernel_rfl
theorem info_regs : (Try.prog.info? 22).map (·.size) = some 15 := by kernel_rfl
section
variable {W W' : World} {b : Nat} {s t : Cs.St}
theorem StateAt.lt (h : StateAt W b s) : b < W.heap.size := (Array.getElem?_eq_some_iff.1 h).1
theorem StateAt.below (h : StateAt W b s) (hb : Below W.heap.size W W') : StateAt W' b s := by unfold StateAt; rw [hb.block b h.lt]; exact h
theorem StateAt.alloc (h : StateAt W b s) (o : Obj) : StateAt (W.alloc o) b s := h.below ((Below.refl _ _).alloc (Nat.le_refl _) o)
theorem state_alloc (W : World) (s : Cs.St) : StateAt (W.alloc (.cells (Cs.cells s) 24)) W.heap.size s := heap_alloc_last W _
theorem StateAt.cell (h : StateAt W b s) (k : Nat) : W.cell? ⟨b, k, none⟩ = (Cs.cells s)[k]? := cell_of_row W b k _ _ _ h
theorem StateAt.reg (h : StateAt W b s) (k : Nat) (hk : k < 15) : W.cell? ⟨b, k, none⟩ = some (.int .i64 (s.r k)) := by rw [h.cell, Cs.cells_get s k hk]
theorem StateAt.pc (h : StateAt W b s) : W.cell? ⟨b, 15, none⟩ = some (.int .i64 s.pc) := h.cell 15
theorem StateAt.n (h : StateAt W b s) : W.cell? ⟨b, 16, none⟩ = some (.bool s.n) := h.cell 16
theorem StateAt.z (h : StateAt W b s) : W.cell? ⟨b, 17, none⟩ = some (.bool s.z) := h.cell 17
theorem StateAt.c (h : StateAt W b s) : W.cell? ⟨b, 18, none⟩ = some (.bool s.c) := h.cell 18
theorem StateAt.v (h : StateAt W b s) : W.cell? ⟨b, 19, none⟩ = some (.bool s.v) := h.cell 19
theorem StateAt.open (h : StateAt W b s) (k : Nat) : W.frozen? ⟨b, k, none⟩ = false := by unfold StateAt at h; simp [World.frozen?, h]
theorem StateAt.set (h : StateAt W b s) (k : Nat) (v : Value) (hc : (Cs.cells s).setIfInBounds k v = Cs.cells t) : StateAt (W.setCell ⟨b, k, none⟩ v) b t := by
  unfold StateAt; rw [heap_setCell_same W b k _ _ v h, hc]
theorem StateAt.setRow (h : StateAt W b s) (t : Cs.St) : StateAt (W.setRow b (Cs.cells t)) b t := setRow_heap W b _ _ _ _ h
theorem StateAt.other (h : StateAt W b s) (a : Addr) (v : Value) (hne : b ≠ a.block) : StateAt (W.setCell a v) b s := by unfold StateAt; rw [Below.heap_setCell _ _ _ _ hne]; exact h
theorem StateAt.otherRow (h : StateAt W b s) (g : Nat) (cs : Array Value) (hne : b ≠ g) : StateAt (W.setRow g cs) b s := by unfold StateAt; rw [setRow_other _ _ _ _ hne]; exact h
theorem StateAt.load (h : StateAt W b s) : (Instr.loadAt 24 (.pointer (some ⟨b, 0, none⟩))).run Try.prog W = .ok (.agg (Cs.cells s)) W := by
  simp only [Instr.loadAt, Instr.sureAddr, Sem.run_bind, Sem.run_pure, Result.andThen]
  exact run_loadVar_row W b _ _ _ _ _ h Try.underlying24 rfl info_state
theorem StateAt.range (h : StateAt W b s) : W.rangeAt b 0 (Cs.regs s).toList := by
  intro k v hk
  have := Cs.regs_of s k v (by simpa using hk)
  rw [Nat.zero_add, h.cell, this]
theorem StateAt.loadRegs (h : StateAt W b s) : (Instr.loadAt 22 (.pointer (some ⟨b, 0, none⟩))).run Try.prog W = .ok (.agg (Cs.regs s)) W :=
  run_loadAt_mid W b 0 _ _ _ h.range Try.underlying22 rfl info_regs
theorem StateAt.store (h : StateAt W b s) (t : Cs.St) : (Instr.storeAt 24 (.pointer (some ⟨b, 0, none⟩)) (.agg (Cs.cells t))).run Try.prog W = .ok () (W.setRow b (Cs.cells t)) := by
  simp only [Instr.storeAt, Instr.sureAddr, Sem.run_bind, Sem.run_pure, Result.andThen]
  exact run_storeVar_row W b _ _ _ _ h info_state rfl (Cs.cells_one t)
end
/-- what an operation loads, from where; what it stores, where: if it does -/
def ldOp (a : Act) (o : Oper) : Option (TypeId × Value) := match o.op with | .load t x => some (t, a.eval x) | _ => none
def ldOf (a : Act) (o : Oper) : Option (TypeId × Value) := match o.guard with | none => ldOp a o | some _ => none
def stOf (a : Act) (o : Oper) : Option (TypeId × Value × Value) := match o.guard, o.op with | none, .store t x y => some (t, a.eval x, a.eval y) | _, _ => none
theorem ldOp_eq {a : Act} {o : Oper} {t : TypeId} {v : Value} (h : ldOp a o = some (t, v)) : ∃ x, o.op = .load t x ∧ a.eval x = v := by
  unfold ldOp at h
  split at h
  · next t' x hx => simp at h; exact ⟨x, by rw [hx, h.1], h.2⟩
  · cases h
theorem ldOf_eq {a : Act} {o : Oper} {t : TypeId} {v : Value} (h : ldOf a o = some (t, v)) : o.guard = none ∧ ∃ x, o.op = .load t x ∧ a.eval x = v := by
  unfold ldOf at h
  split at h
  · next hg => exact ⟨hg, ldOp_eq h⟩
  · cases h
theorem stOf_eq {a : Act} {o : Oper} {t : TypeId} {u v : Value} (h : stOf a o = some (t, u, v)) : o.guard = none ∧ ∃ x y, o.op = .store t x y ∧ a.eval x = u ∧ a.eval y = v := by
  unfold stOf at h
  split at h
  · next t' x y hg hx => simp at h; exact ⟨hg, x, y, by rw [hx, h.1], h.2.1, h.2.2⟩
  · cases h
section
variable {P : Program} {ops : Array Oper} {rest : List Oper} {o : Oper} {a : Act} {w : World} {Q : Exit → Act → World → Prop} {K : Act → World → Prop} {b : Nat} {s : Cs.St}
theorem wp_load_st (h : StateAt w b s) (ho : ldOp a o = some (24, .pointer (some ⟨b, 0, none⟩)))
    (k : K (a.put o.dst (.agg (Cs.cells s))) w) : Oper.wp Try.prog o a w K Q := by
  obtain ⟨x, ho, hx⟩ := ldOp_eq ho
  exact wp_load_row _ x ho b hx _ _ _ _ h Try.underlying24 rfl info_state k
theorem wpList_load_st (h : StateAt w b s) (ho : ldOf a o = some (24, .pointer (some ⟨b, 0, none⟩)))
    (k : wpList Try.prog ops Q rest (a.put o.dst (.agg (Cs.cells s))) w) : wpList Try.prog ops Q (o :: rest) a w := by
  obtain ⟨hg, x, ho, hx⟩ := ldOf_eq ho
  exact wpList_load_row hg _ x ho b hx _ _ _ _ h Try.underlying24 rfl info_state k
theorem wpList_load_stg (h : StateAt w b s) (ho : ldOp a o = some (24, .pointer (some ⟨b, 0, none⟩))) (hw : Region.wanted o (yielded ops a.tmps) = true)
    (k : wpList Try.prog ops Q rest (a.put o.dst (.agg (Cs.cells s))) w) : wpList Try.prog ops Q (o :: rest) a w :=
  wpList_take hw fun _ hK => wp_load_st h ho (hK _ _ k)
theorem wpList_load_regs (h : StateAt w b s) (ho : ldOf a o = some (22, .pointer (some ⟨b, 0, none⟩)))
    (k : wpList Try.prog ops Q rest (a.put o.dst (.agg (Cs.regs s))) w) : wpList Try.prog ops Q (o :: rest) a w := by
  obtain ⟨hg, x, ho, hx⟩ := ldOf_eq ho
  have := wpList_load_mid (P := Try.prog) (ops := ops) (rest := rest) (Q := Q) (op := o) (a := a) (w := w) hg _ x ho b 0 hx (Cs.regs s).toList _ h.range Try.underlying22 rfl info_regs
  exact this k
theorem wpList_store_st (h : StateAt w b s) (t : Cs.St) (ho : stOf a o = some (24, .pointer (some ⟨b, 0, none⟩), .agg (Cs.cells t)))
    (k : wpList Try.prog ops Q rest (a.put o.dst undef) (w.setRow b (Cs.cells t))) : wpList Try.prog ops Q (o :: rest) a w := by
  obtain ⟨hg, x, y, ho, hx, hy⟩ := stOf_eq ho
  exact wpList_plain hg fun _ hK => wp_store_row _ x y ho b _ hx hy _ _ h info_state rfl (Cs.cells_one t) (hK _ _ k)
end
theorem run_regs_index (s : Cs.St) (k : Nat) (hk : k < 15) (w : World) : (Instr.index 22 (.agg (Cs.regs s)) (.int .i64 (k : Int))).run Try.prog w = .ok (.int .i64 (s.r k)) w := by
  have h1 : (0 : Int) ≤ (k : Int) ∧ (k : Int) < 15 := by omega
  have hi : ∃ i, Try.prog.info? 3 = some i ∧ i.size = 1 := by
    have h : (Try.prog.info? 3).map (fun i => i.size) = some 1 := by kernel_rfl
    cases hq : Try.prog.info? 3 with
    | none => rw [hq] at h; cases h
    | some i => rw [hq] at h; simp at h; exact ⟨i, rfl, h⟩
  obtain ⟨i, hi, hs⟩ := hi
  have hg := Cs.regs_get s k hk
  have hu : ∀ w, (isAgg 3).run Try.prog w = .ok false w := fun w => by simp [isAgg, run_underlying Try.underlying3]
  simp [Instr.index, run_underlying Try.underlying22, asIntOf, h1, sizeOf, typeInfo, hi, hs, hu, hg, go_sem]
  intro h; omega
theorem state_alloc' (W : World) (s : Cs.St) (n : Nat) (hn : n = W.heap.size) : StateAt (W.alloc (.cells (Cs.cells s) 24)) n s := hn ▸ state_alloc W s
theorem setRow_alloc' (W : World) (c c' : Array Value) (t : TypeId) (n : Nat) (hn : n = W.heap.size) : (W.alloc (.cells c t)).setRow n c' = W.alloc (.cells c' t) := hn ▸ World.setRow_alloc_new W c c' t
section
variable {fn : Func} {R : Ending → World → Prop} {a : Act} {w : World} {p q : Tmp} {b : Nat} {s : Cs.St}
theorem bp_state (hr : fn.results = #[.cell p 24]) (hp : a.tmps.getD p undef = .pointer (some ⟨b, 0, none⟩)) (h : StateAt w b s) (hd : a.defers = []) (hR : R (.returned (.agg (Cs.cells s))) w) : bodyPost Try.prog fn R .ret a w :=
  bodyPost_ret (results_cell_row hr _ w b _ _ _ _ hp h Try.underlying24 rfl info_state) hd hR
theorem bp_state2 (hr : fn.results = #[.cell p 24, .tmp q]) (hp : a.tmps.getD p undef = .pointer (some ⟨b, 0, none⟩)) (h : StateAt w b s) (hd : a.defers = []) (hR : R (.returned (.tuple #[.agg (Cs.cells s), a.tmps.getD q undef])) w) : bodyPost Try.prog fn R .ret a w := by
  have hp' : a.tmps[p]?.getD undef = .pointer (some ⟨b, 0, none⟩) := by simpa using hp
  refine bodyPost_ret ?_ hd hR
  simp [results, hr, hp', asAddr, run_loadVar_row w b _ _ _ _ _ h Try.underlying24 rfl info_state]
end
theorem alloc_drewN (w : World) (o : Obj) (n : Nat) : (w.alloc o).drewN n = (w.drewN n).alloc o := rfl
theorem alloc_drew (w : World) (o : Obj) : (w.alloc o).drew = w.drew.alloc o := rfl
theorem below_drewC {B : Nat} {a w : World} (h : Below B a w) (n : Nat) : Below B a (w.drewN n) := h.trans ⟨rfl, rfl, rfl, Nat.le_refl _, fun _ _ => rfl⟩
theorem below_setRow {B : Nat} {a w : World} (h : Below B a w) {g : Nat} (hg : B ≤ g) (cs : Array Value) : Below B a (w.setRow g cs) :=
  ⟨h.os, h.tape, h.output, by have := h.size; simpa using this, fun k hk => (setRow_other w g k cs (by omega)).trans (h.block k hk)⟩
/-- a contract that leaves the world as it was, as a still region wants it -/
theorem still {P : Program} {f : FuncId} {args : Array Value} {w : World} {v : Ending} (h : Calls P f args w fun e w' => e = v ∧ w = w') : Calls P f args w fun e w' => e = v ∧ w' = w :=
  h.mono fun _ _ ⟨a, b⟩ => ⟨a, b.symm⟩
theorem InsAt.set {W : World} {b : Nat} {op rd rn rm ra imm cond : Int} {wide : Bool} (h : InsAt W b op rd rn rm ra imm cond wide) (a : Addr) (v : Value) (hne : b ≠ a.block) : InsAt (W.setCell a v) b op rd rn rm ra imm cond wide := by
  obtain ⟨h0, h1, h2, h3, h4, h5, h6, h7⟩ := h
  refine ⟨?_, ?_, ?_, ?_, ?_, ?_, ?_, ?_⟩ <;> (rw [World.cell?_of_block (w := W) (Below.heap_setCell _ _ _ _ hne)]; assumption)
end Go.Proofs.Ytennhpfhgbmnfaa
