/-
A machine's state that lies in a block of its own; how it is loaded and stored whole, and register by register.
Elements of a slice, cell by cell; what Regions, the document's and the program's, returns.
What word's Bytes and Of, of the program and of the document, return.
What package thumb's within returns, part 3.
What package thumb's within returns, part 2.
What package thumb's within returns, part 1.
Plain mathematics of instructions: the bits and fields of each one, as the program writes them. It names nothing of the translated program.
-/
import Derived.Deep.MidRow
import Derived.Deep.WholeRow
import Derived.Deep.QuietTactic
import Derived.Deep.RegionHeld3
import Derived.BigQuiet
import Derived.StillTailTactics
import Derived.Test.YthciobjklhkkcaaGreatRows
import Derived.Test.YthciobjklhkkcaaGreatP02b
import Derived.Test.YthciobjklhkkcaaGreatP02a
import Derived.Test.YthciobjklhkkcaaGreatP01a
import Derived.WalkKit
import Derived.ProofKit
import Derived.LoopTactic
import Derived.Lib.Hide
import Derived.LoopN
import Derived.Below
import Derived.OpenShut
import Derived.Laws.BytesArg
section
namespace Go.Proofs.YthciobjklhkkcaaGreat
open Go.ChangeShapes Go.WideShapes Go.ChangeAt Go.RowKit
set_option linter.unusedVariables false

/-- a state in block b -/
def StateAt (w : World) (b : Nat) (s : Cs.St) : Prop := w.heap[b]? = some (.cells (Cs.cells s) 56 (0, 0))
theorem info_state : (Tryz.prog.info? 56).map (·.size) = some 20 := by kernel_rfl
theorem info_regs : (Tryz.prog.info? 54).map (·.size) = some 15 := by kernel_rfl
section
variable {W W' : World} {b : Nat} {s t : Cs.St}
theorem StateAt.lt (h : StateAt W b s) : b < W.heap.size := (Array.getElem?_eq_some_iff.1 h).1
theorem StateAt.below (h : StateAt W b s) (hb : Below W.heap.size W W') : StateAt W' b s := by unfold StateAt; rw [hb.block b h.lt]; exact h
theorem StateAt.alloc (h : StateAt W b s) (o : Obj) : StateAt (W.alloc o) b s := h.below ((Below.refl _ _).alloc (Nat.le_refl _) o)
theorem state_alloc (W : World) (s : Cs.St) : StateAt (W.alloc (.cells (Cs.cells s) 56)) W.heap.size s := heap_alloc_last W _
theorem StateAt.cell (h : StateAt W b s) (k : Nat) : W.cell? ⟨b, k, none⟩ = (Cs.cells s)[k]? := cell_of_row W b k _ _ _ h
theorem StateAt.reg (h : StateAt W b s) (k : Nat) (hk : k < 15) : W.cell? ⟨b, k, none⟩ = some (.int .i64 (s.r k)) := by rw [h.cell, Cs.cells_get s k hk]
theorem StateAt.pc (h : StateAt W b s) : W.cell? ⟨b, 15, none⟩ = some (.int .i64 s.pc) := h.cell 15
theorem StateAt.n (h : StateAt W b s) : W.cell? ⟨b, 16, none⟩ = some (.bool s.n) := h.cell 16
theorem StateAt.z (h : StateAt W b s) : W.cell? ⟨b, 17, none⟩ = some (.bool s.z) := h.cell 17
theorem StateAt.c (h : StateAt W b s) : W.cell? ⟨b, 18, none⟩ = some (.bool s.c) := h.cell 18
theorem StateAt.v (h : StateAt W b s) : W.cell? ⟨b, 19, none⟩ = some (.bool s.v) := h.cell 19
theorem StateAt.open (h : StateAt W b s) (k : Nat) : W.frozen? ⟨b, k, none⟩ = false := by unfold StateAt at h; simp [World.frozen?, h]
theorem StateAt.set (h : StateAt W b s) (k : Nat) (v : Value) (hc : (Cs.cells s).setIfInBounds k v = Cs.cells t) : StateAt (W.setCell ⟨b, k, none⟩ v) b t := by
 unfold StateAt; rw [heap_setCell_same W b k _ _ v h, hc]
theorem StateAt.setRow (h : StateAt W b s) (t : Cs.St) : StateAt (W.setRow b (Cs.cells t)) b t := setRow_heap W b _ _ _ _ h
theorem StateAt.other (h : StateAt W b s) (a : Addr) (v : Value) (hne : b ≠ a.block) : StateAt (W.setCell a v) b s := by unfold StateAt; rw [Below.heap_setCell _ _ _ _ hne]; exact h
theorem StateAt.otherRow (h : StateAt W b s) (g : Nat) (cs : Array Value) (hne : b ≠ g) : StateAt (W.setRow g cs) b s := by unfold StateAt; rw [setRow_other _ _ _ _ hne]; exact h
theorem StateAt.load (h : StateAt W b s) : (Instr.loadAt 56 (.pointer (some ⟨b, 0, none⟩))).run Tryz.prog W = .ok (.agg (Cs.cells s)) W := by
 simp only [Instr.loadAt, Instr.sureAddr, Sem.run_bind, Sem.run_pure, Result.andThen]
 exact run_loadVar_row W b _ _ _ _ _ h Tryz.underlying56 rfl info_state
theorem StateAt.range (h : StateAt W b s) : W.rangeAt b 0 (Cs.regs s).toList := by
 intro k v hk
 have := Cs.regs_of s k v (by simpa using hk)
 rw [Nat.zero_add, h.cell, this]
theorem StateAt.store (h : StateAt W b s) (t : Cs.St) : (Instr.storeAt 56 (.pointer (some ⟨b, 0, none⟩)) (.agg (Cs.cells t))).run Tryz.prog W = .ok () (W.setRow b (Cs.cells t)) := by
 simp only [Instr.storeAt, Instr.sureAddr, Sem.run_bind, Sem.run_pure, Result.andThen]
 exact run_storeVar_row W b _ _ _ _ h info_state rfl (Cs.cells_one t)
end
/-- what an operation loads, from where; what it stores, where: if it does -/
def ldOp (a : Act) (o : Oper) : Option (TypeId × Value) := match o.op with | .load t x => some (t, a.eval x) | _ => none
def ldOf (a : Act) (o : Oper) : Option (TypeId × Value) := match o.guard with | none => ldOp a o | some _ => none
def stOf (a : Act) (o : Oper) : Option (TypeId × Value × Value) := match o.guard, o.op with | none, .store t x y => some (t, a.eval x, a.eval y) | _, _ => none
theorem ldOp_eq {a : Act} {o : Oper} {t : TypeId} {v : Value} (h : ldOp a o = some (t, v)) : ∃ x, o.op = .load t x ∧ a.eval x = v := by
 unfold ldOp at h
 split at h
 ·next t' x hx => simp at h; exact ⟨x, by rw [hx, h.1], h.2⟩
 ·cases h
theorem ldOf_eq {a : Act} {o : Oper} {t : TypeId} {v : Value} (h : ldOf a o = some (t, v)) : o.guard = none ∧ ∃ x, o.op = .load t x ∧ a.eval x = v := by
 unfold ldOf at h
 split at h
 ·next hg => exact ⟨hg, ldOp_eq h⟩
 ·cases h
theorem stOf_eq {a : Act} {o : Oper} {t : TypeId} {u v : Value} (h : stOf a o = some (t, u, v)) : o.guard = none ∧ ∃ x y, o.op = .store t x y ∧ a.eval x = u ∧ a.eval y = v := by
 unfold stOf at h
 split at h
 ·next t' x y hg hx => simp at h; exact ⟨hg, x, y, by rw [hx, h.1], h.2.1, h.2.2⟩
 ·cases h
section
variable {P : Program} {ops : Array Oper} {rest : List Oper} {o : Oper} {a : Act} {w : World} {Q : Exit → Act → World → Prop} {K : Act → World → Prop} {b : Nat} {s : Cs.St}
theorem wp_load_st (h : StateAt w b s) (ho : ldOp a o = some (56, .pointer (some ⟨b, 0, none⟩)))
  (k : K (a.put o.dst (.agg (Cs.cells s))) w) : Oper.wp Tryz.prog o a w K Q := by
 obtain ⟨x, ho, hx⟩ := ldOp_eq ho
 exact wp_load_row _ x ho b hx _ _ _ _ h Tryz.underlying56 rfl info_state k
theorem wpList_load_st (h : StateAt w b s) (ho : ldOf a o = some (56, .pointer (some ⟨b, 0, none⟩)))
  (k : wpList Tryz.prog ops Q rest (a.put o.dst (.agg (Cs.cells s))) w) : wpList Tryz.prog ops Q (o :: rest) a w := by
 obtain ⟨hg, x, ho, hx⟩ := ldOf_eq ho
 exact wpList_load_row hg _ x ho b hx _ _ _ _ h Tryz.underlying56 rfl info_state k
theorem wpList_load_stg (h : StateAt w b s) (ho : ldOp a o = some (56, .pointer (some ⟨b, 0, none⟩))) (hw : Region.wanted o (yielded ops a.tmps) = true)
  (k : wpList Tryz.prog ops Q rest (a.put o.dst (.agg (Cs.cells s))) w) : wpList Tryz.prog ops Q (o :: rest) a w :=
 wpList_take hw fun _ hK => wp_load_st h ho (hK _ _ k)
theorem wpList_load_regs (h : StateAt w b s) (ho : ldOf a o = some (54, .pointer (some ⟨b, 0, none⟩)))
  (k : wpList Tryz.prog ops Q rest (a.put o.dst (.agg (Cs.regs s))) w) : wpList Tryz.prog ops Q (o :: rest) a w := by
 obtain ⟨hg, x, ho, hx⟩ := ldOf_eq ho
 have := wpList_load_mid (P := Tryz.prog) (ops := ops) (rest := rest) (Q := Q) (op := o) (a := a) (w := w) hg _ x ho b 0 hx (Cs.regs s).toList _ h.range Tryz.underlying54 rfl info_regs
 exact this k
theorem wpList_store_st (h : StateAt w b s) (t : Cs.St) (ho : stOf a o = some (56, .pointer (some ⟨b, 0, none⟩), .agg (Cs.cells t)))
  (k : wpList Tryz.prog ops Q rest (a.put o.dst undef) (w.setRow b (Cs.cells t))) : wpList Tryz.prog ops Q (o :: rest) a w := by
 obtain ⟨hg, x, y, ho, hx, hy⟩ := stOf_eq ho
 exact wpList_plain hg fun _ hK => wp_store_row _ x y ho b _ hx hy _ _ h info_state rfl (Cs.cells_one t) (hK _ _ k)
end
theorem run_regs_index (s : Cs.St) (k : Nat) (hk : k < 15) (w : World) : (Instr.index 54 (.agg (Cs.regs s)) (.int .i64 (k : Int))).run Tryz.prog w = .ok (.int .i64 (s.r k)) w := by
 have h1 : (0 : Int) ≤ (k : Int) ∧ (k : Int) < 15 := by omega
 have hi : ∃ i, Tryz.prog.info? 3 = some i ∧ i.size = 1 := by
  have h : (Tryz.prog.info? 3).map (fun i => i.size) = some 1 := by kernel_rfl
  cases hq : Tryz.prog.info? 3 with
  | none => rw [hq] at h; cases h
  | some i => rw [hq] at h; simp at h; exact ⟨i, rfl, h⟩
 obtain ⟨i, hi, hs⟩ := hi
 have hg := Cs.regs_get s k hk
 have hu : ∀ w, (isAgg 3).run Tryz.prog w = .ok false w := fun w => by simp [isAgg, run_underlying Tryz.underlying3]
 simp [Instr.index, run_underlying Tryz.underlying54, asIntOf, h1, sizeOf, typeInfo, hi, hs, hu, hg, go_sem]
 intro h; omega
theorem state_alloc' (W : World) (s : Cs.St) (n : Nat) (hn : n = W.heap.size) : StateAt (W.alloc (.cells (Cs.cells s) 56)) n s := hn ▸ state_alloc W s
theorem setRow_alloc' (W : World) (c c' : Array Value) (t : TypeId) (n : Nat) (hn : n = W.heap.size) : (W.alloc (.cells c t)).setRow n c' = W.alloc (.cells c' t) := hn ▸ World.setRow_alloc_new W c c' t
section
variable {fn : Func} {R : Ending → World → Prop} {a : Act} {w : World} {p q : Tmp} {b : Nat} {s : Cs.St}
theorem bp_state (hr : fn.results = #[.cell p 56]) (hp : a.tmps.getD p undef = .pointer (some ⟨b, 0, none⟩)) (h : StateAt w b s) (hd : a.defers = []) (hR : R (.returned (.agg (Cs.cells s))) w) : bodyPost Tryz.prog fn R .ret a w :=
 bodyPost_ret (results_cell_row hr _ w b _ _ _ _ hp h Tryz.underlying56 rfl info_state) hd hR
theorem bp_state2 (hr : fn.results = #[.cell p 56, .tmp q]) (hp : a.tmps.getD p undef = .pointer (some ⟨b, 0, none⟩)) (h : StateAt w b s) (hd : a.defers = []) (hR : R (.returned (.tuple #[.agg (Cs.cells s), a.tmps.getD q undef])) w) : bodyPost Tryz.prog fn R .ret a w := by
 have hp' : a.tmps[p]?.getD undef = .pointer (some ⟨b, 0, none⟩) := by simpa using hp
 refine bodyPost_ret ?_ hd hR
 simp [results, hr, hp', asAddr, run_loadVar_row w b _ _ _ _ _ h Tryz.underlying56 rfl info_state]
end
theorem below_drewC {B : Nat} {a w : World} (h : Below B a w) (n : Nat) : Below B a (w.drewN n) := h.trans ⟨rfl, rfl, rfl, Nat.le_refl _, fun _ _ => rfl⟩
theorem below_setRow {B : Nat} {a w : World} (h : Below B a w) {g : Nat} (hg : B ≤ g) (cs : Array Value) : Below B a (w.setRow g cs) :=
 ⟨h.os, h.tape, h.output, by have := h.size; simpa using this, fun k hk => (setRow_other w g k cs (by omega)).trans (h.block k hk)⟩
/-- a contract that leaves the world as it was, as a still region wants it -/
theorem still {P : Program} {f : FuncId} {args : Array Value} {w : World} {v : Ending} (h : Calls P f args w fun e w' => e = v ∧ w = w') : Calls P f args w fun e w' => e = v ∧ w' = w :=
 h.mono fun _ _ ⟨a, b⟩ => ⟨a, b.symm⟩
theorem InsAt.set {W : World} {b : Nat} {op rd rn rm ra imm cond : Int} {wide : Bool} (h : InsAt W b op rd rn rm ra imm cond wide) (a : Addr) (v : Value) (hne : b ≠ a.block) : InsAt (W.setCell a v) b op rd rn rm ra imm cond wide := by
 obtain ⟨h0, h1, h2, h3, h4, h5, h6, h7⟩ := h
 refine ⟨?_, ?_, ?_, ?_, ?_, ?_, ?_, ?_⟩ <;> (rw [World.cell?_of_block (w := W) (Below.heap_setCell _ _ _ _ hne)]; assumption)
/-- a state, an instruction, and a result's state, in three blocks; nothing but new memory is other than it was -/
structure Cpu3 (w : World) (n : Nat) (W : World) (s : Cs.St) (op rd rn rm ra imm cond : Int) (wide : Bool) : Prop where
 st : StateAt W n s
 ins : InsAt W (n + 1) op rd rn rm ra imm cond wide
 res : StateAt W (n + 1 + 1) Cs.none
 bel : Below n w W
section
variable {w W W' : World} {n : Nat} {s : Cs.St} {op rd rn rm ra imm cond : Int} {wide : Bool}
theorem Cpu3.kept (h : Cpu3 w n W s op rd rn rm ra imm cond wide) (hb : Below W.heap.size W W') : Cpu3 w n W' s op rd rn rm ra imm cond wide := by
 have := h.res.lt
 exact ⟨h.st.below hb, h.ins.below hb (by omega), h.res.below hb, h.bel.trans (hb.mono (by omega))⟩
theorem InsAt.setRow {b : Nat} (h : InsAt W b op rd rn rm ra imm cond wide) (g : Nat) (cs : Array Value) (hne : b ≠ g) : InsAt (W.setRow g cs) b op rd rn rm ra imm cond wide := by
 obtain ⟨h0, h1, h2, h3, h4, h5, h6, h7⟩ := h
 refine ⟨?_, ?_, ?_, ?_, ?_, ?_, ?_, ?_⟩ <;> (rw [cell_setRow_other _ _ _ _ hne]; assumption)
theorem Cpu3.row (h : Cpu3 w n W s op rd rn rm ra imm cond wide) (t : Cs.St) : Cpu3 w n (W.setRow n (Cs.cells t)) t op rd rn rm ra imm cond wide :=
 ⟨h.st.setRow t, h.ins.setRow n _ (by omega), h.res.otherRow n _ (by omega), below_setRow h.bel (Nat.le_refl _) _⟩
theorem Cpu3.pc (h : Cpu3 w n W s op rd rn rm ra imm cond wide) (x : Int) : Cpu3 w n (W.setCell ⟨n, 15, none⟩ (.int .i64 x)) { s with pc := x } op rd rn rm ra imm cond wide :=
 ⟨h.st.set 15 _ (Cs.cells_spc s x), h.ins.set _ _ (by show n + 1 ≠ n; omega), h.res.other _ _ (by show n + 1 + 1 ≠ n; omega), h.bel.setCell (Nat.le_refl _) _⟩
theorem Cpu3.end (h : Cpu3 w n W s op rd rn rm ra imm cond wide) (t : Cs.St) : Below n w (W.setRow (n + 1 + 1) (Cs.cells t)) := below_setRow h.bel (by omega) _
theorem Cpu3.new (w : World) (s : Cs.St) (op rd rn rm ra imm cond : Int) (wide : Bool) :
  Cpu3 w w.heap.size (((w.alloc (.cells (Cs.cells s) 56)).alloc (.cells #[.int .i64 op, .int .i64 rd, .int .i64 rn, .int .i64 rm, .int .i64 ra, .int .i64 imm, .int .i64 cond, .bool wide] 123)).alloc (.cells Cs.zero 56)) s op rd rn rm ra imm cond wide := by
 refine ⟨((state_alloc w s).alloc _).alloc _, ?_, state_alloc' _ Cs.none _ (by simp), (((Below.refl _ _).alloc (Nat.le_refl _) _).alloc (by simp) _).alloc (by simp; omega) _⟩
 refine InsAt.alloc ?_ (by simp) _
 have h := ins_alloc (w.alloc (.cells (Cs.cells s) 56)) 123 op rd rn rm ra imm cond wide
 simpa using h
end
theorem Cpu3.drew {w W : World} {n : Nat} {s : Cs.St} {op rd rn rm ra imm cond : Int} {wide : Bool} (h : Cpu3 w n W s op rd rn rm ra imm cond wide) : Cpu3 w n W.drew s op rd rn rm ra imm cond wide := h.kept (Below.refl _ _).drew
/-- what 'made' looks at first: registers of these numbers -/
theorem Cpu3.newN (w : World) (q : Nat) (s : Cs.St) (op rd rn rm ra imm cond : Int) (wide : Bool) :
  Cpu3 w w.heap.size ((((w.alloc (.cells (Cs.cells s) 56)).alloc (.cells #[.int .i64 op, .int .i64 rd, .int .i64 rn, .int .i64 rm, .int .i64 ra, .int .i64 imm, .int .i64 cond, .bool wide] 123)).alloc (.cells Cs.zero 56)).drewN q) s op rd rn rm ra imm cond wide := (Cpu3.new w s op rd rn rm ra imm cond wide).kept (below_drewC (Below.refl _ _) q)
theorem Cs.idx (s : Cs.St) (k : Nat) (h : k < 13) : (Cs.cells s)[k]? = some (.int .i64 (s.r k)) ∧ (k : Int) < 15 ∧ (0 : Int) ≤ (k : Int) := ⟨Cs.cells_get s k (by omega), by omega, by omega⟩
/-- a register stored, and what stands then -/
theorem Cpu3.reg {w W : World} {n : Nat} {s : Cs.St} {op rd rn rm ra imm cond : Int} {wide : Bool} (h : Cpu3 w n W s op rd rn rm ra imm cond wide) (k : Nat) (hk : k < 13) (x : Int) : Cpu3 w n (W.setCell ⟨n, k, none⟩ (.int .i64 x)) (Cs.put s k x) op rd rn rm ra imm cond wide :=
 ⟨h.st.set k _ (Cs.cells_put s k x (by omega)), h.ins.set _ _ (by show n + 1 ≠ n; omega), h.res.other _ _ (by show n + 1 + 1 ≠ n; omega), h.bel.setCell (Nat.le_refl _) _⟩
end Go.Proofs.YthciobjklhkkcaaGreat
end
section
namespace Go.Proofs.YthciobjklhkkcaaGreat
open Go.ChangeShapes Go.WideShapes Go.ChangeAt Go.RowKit
set_option maxHeartbeats 4000000
set_option maxRecDepth 100000
set_option linter.unusedVariables false

theorem add_zero' (a : Addr) : a.add 0 = a := by unfold Addr.add; split <;> simp_all
/-- cells from an address on -/
def OnC (W : World) (a : Addr) (cs : List Value) : Prop := ∀ j u, cs[j]? = some u → W.cell? (a.add j) = some u
theorem OnC.kept {W W' : World} {a : Addr} {cs : List Value} (h : OnC W a cs) (hb : Below W.heap.size W W') : OnC W' a cs := fun j u hj => by
 have h1 := h j u hj
 rw [hb.cell (p := a.add j) (cell_lt h1)]
 exact h1
/-- a slice's elements -/
def SliceC {α : Type} (f : α → List Value) (sz : Nat) (W : World) (v : Value) (L : List α) : Prop :=
 ∃ (p : Option Addr) (cap : Nat), v = .slice p L.length cap ∧ ∀ k (hk : k < L.length), ∃ a, p = some a ∧ OnC W (a.add (k * sz)) (f L[k])
theorem SliceC.kept {α : Type} {f : α → List Value} {sz : Nat} {W W' : World} {v : Value} {L : List α} (h : SliceC f sz W v L) (hb : Below W.heap.size W W') : SliceC f sz W' v L := by
 obtain ⟨p, cap, rfl, hc⟩ := h
 refine ⟨p, cap, rfl, fun k hk => ?_⟩
 obtain ⟨a, rfl, hi⟩ := hc k hk
 exact ⟨a, rfl, hi.kept hb⟩
theorem flatC_get {α : Type} (f : α → List Value) (sz : Nat) (hf : ∀ x, (f x).length = sz) (L : List α) : ∀ k (hk : k < L.length) j u, (f L[k])[j]? = some u → (L.flatMap f)[k * sz + j]? = some u := by
 induction L with
 | nil => intro k hk; exact absurd hk (Nat.not_lt_zero _)
 | cons i L ih =>
  intro k hk j u hj
  have hj8 : j < sz := by
   apply Nat.lt_of_not_le
   intro hge
   rw [List.getElem?_eq_none (by rw [hf]; exact hge)] at hj
   cases hj
  rw [List.flatMap_cons]
  cases k with
  | zero => rw [List.getElem?_append_left (by rw [hf]; omega)]; simpa using hj
  | succ k =>
   rw [List.getElem?_append_right (by rw [hf, Nat.succ_mul]; omega)]
   have e : (k + 1) * sz + j - (f i).length = k * sz + j := by rw [hf, Nat.succ_mul]; omega
   rw [e]
   exact ih k (by simpa using hk) j u (by simpa using hj)
def rgC (r : Mm.Rg) : List Value := [.int .i64 r.base, .int .i64 r.len, .bool r.write]
theorem rgC_len (r : Mm.Rg) : (rgC r).length = 3 := rfl
theorem seven_at {W : World} {g : Nat} {i o r f : Int} (h : OnC W ⟨g, 0, none⟩ ((Mm.seven i o r f).flatMap rgC)) (c : Nat) : SliceC rgC 3 W (.slice (some ⟨g, 0, none⟩) 7 c) (Mm.seven i o r f) := by
 refine ⟨some ⟨g, 0, none⟩, c, rfl, fun k hk => ⟨_, rfl, fun j u hj => ?_⟩⟩
 have h1 := flatC_get rgC 3 rgC_len _ k hk j u hj
 have h2 := h _ _ h1
 rw [Go.Deep.add_add]
 exact h2
theorem cells_new (w : World) (cs : Array Value) (t : TypeId) : OnC (w.alloc (.cells cs t)) ⟨w.heap.size, 0, none⟩ cs.toList := by
 intro j u hj
 have hadd : ((⟨w.heap.size, 0, none⟩ : Addr).add j) = ⟨w.heap.size, j, none⟩ := by
  unfold Addr.add
  split <;> simp_all
 rw [hadd]
 simp only [World.cell?, World.alloc]
 simpa using hj
theorem box3 {w w1 : World} {t : TypeId} {i o r : Int} (hb : Below (w.alloc (.cells #[.int .i64 i, .int .i64 o, .int .i64 r] t)).heap.size (w.alloc (.cells #[.int .i64 i, .int .i64 o, .int .i64 r] t)) w1) :
  w1.cell? ⟨w.heap.size, 0, none⟩ = some (.int .i64 i) ∧ w1.cell? ⟨w.heap.size, 1, none⟩ = some (.int .i64 o) ∧ w1.cell? ⟨w.heap.size, 2, none⟩ = some (.int .i64 r) := by
 refine ⟨?_, ?_, ?_⟩ <;> (rw [hb.cell (by simp)]; simp [go_sem])
theorem regions_ok (i o r f : Int) (w : World) (hE : Hid (Mm.err i o r f = 0)) :
  Calls Tryz.prog 50 #[.agg #[.int .i64 i, .int .i64 o, .int .i64 r], .int .i64 f] w fun e w' => ∃ a c, e = .returned (.tuple #[.slice (some a) 7 c, .int .i64 0]) ∧ SliceC rgC 3 w' (.slice (some a) 7 c) (Mm.seven i o r f) ∧ Below w.heap.size w w' := by
 have C : Hid (∀ w : World, Calls Tryz.prog 75 #[.agg #[.int .i64 i, .int .i64 o, .int .i64 r], .int .i64 f] w fun e w' => e = .returned (.int .i64 0) ∧ Below w.heap.size w w') := Lib.hid fun w => by
  have := mcheck_any i o r f w
  rw [hE.out] at this
  exact this
 go_enter Tryz.func50, Tryz.ntmps50
 go_wp2_with (go_at_call 75; refine (C.out _).mono ?_; rintro e w1 ⟨rfl, hb1⟩; obtain ⟨x0, x1, x2⟩ := box3 hb1; have HB := Lib.hid (((Below.refl _ _).alloc (Nat.le_refl _) _).trans (hb1.mono (by simp))); clear hb1)
 exact bodyPost_ret (v := .tuple #[.slice (some ⟨w1.heap.size, 0, none⟩) 7 7, .int .i64 0]) (by simp [results, Tryz.results50, go_sem]) rfl ⟨⟨w1.heap.size, 0, none⟩, 7, rfl, seven_at (cells_new w1 _ _) 7, HB.out.alloc HB.out.size _⟩
theorem regions_no (i o r f E : Int) (w : World) (hE : Hid (Mm.err i o r f = E)) (h0 : ¬ E = 0) :
  Calls Tryz.prog 50 #[.agg #[.int .i64 i, .int .i64 o, .int .i64 r], .int .i64 f] w fun e w' => e = .returned (.tuple #[.slice none 0 0, .int .i64 E]) ∧ Below w.heap.size w w' := by
 have C : Hid (∀ w : World, Calls Tryz.prog 75 #[.agg #[.int .i64 i, .int .i64 o, .int .i64 r], .int .i64 f] w fun e w' => e = .returned (.int .i64 E) ∧ Below w.heap.size w w') := Lib.hid fun w => by
  have := mcheck_any i o r f w
  rw [hE.out] at this
  exact this
 go_enter Tryz.func50, Tryz.ntmps50
 go_wp2_with (go_at_call 75; refine (C.out _).mono ?_; rintro e w1 ⟨rfl, hb1⟩; have HB := Lib.hid (((Below.refl _ _).alloc (Nat.le_refl _) _).trans (hb1.mono (by simp))); clear hb1)
 exact bodyPost_ret (v := .tuple #[.slice none 0 0, .int .i64 E]) (by simp [results, Tryz.results50, go_sem]) rfl ⟨rfl, HB.out⟩
end Go.Proofs.YthciobjklhkkcaaGreat
end
section
namespace Go.Proofs.YthciobjklhkkcaaGreat
open Go.ChangeShapes Go.WideShapes Go.ChangeAt Go.RowKit
set_option maxHeartbeats 400000

namespace Wd
def bytes (a : Int) : ByteArray := strOfNums [wrap a % 256, wrap a / 256 % 256, wrap a / 65536 % 256, wrap a / 16777216]
def four (b0 b1 b2 b3 : UInt8) : Int := (b0.toNat : Int) + 256 * b1.toNat + 65536 * b2.toNat + 16777216 * b3.toNat
theorem bytes_eq (a : Int) : strOfNums [shr a 0 % 256, shr a 8 % 256, shr a 16 % 256, shr a 24 % 256] = bytes a := by
 have h := wrap_bd a
 have e0 : shr a 0 = wrap a := by show wrap a / 2 ^ 0 = _; omega
 have e1 : shr a 8 = wrap a / 256 := rfl
 have e2 : shr a 16 = wrap a / 65536 := rfl
 have e3 : shr a 24 = wrap a / 16777216 := rfl
 have e4 : wrap a / 16777216 % 256 = wrap a / 16777216 := by omega
 rw [e0, e1, e2, e3, e4]; rfl
theorem bytes_is (a : Int) : bytes a = ⟨#[UInt8.ofNat (wrap a % 256).toNat, UInt8.ofNat (wrap a / 256 % 256).toNat, UInt8.ofNat (wrap a / 65536 % 256).toNat, UInt8.ofNat (wrap a / 16777216).toNat]⟩ := rfl
theorem byte_lt (b : UInt8) : b.toNat < 256 := b.toNat_lt
theorem wrap64_byte' (b : UInt8) : wrap64 (b.toNat : Int) = (b.toNat : Int) := by have := byte_lt b; exact wrap64_in _ (by omega) (by omega)
theorem or_shift (r b j p : Nat) (hp : p = 2 ^ j) (hr : r < p) (hb : b < 256) (hj : j ≤ 24) : bits .or .i64 (r : Int) ((b : Int) * (p : Int)) = ((r + b * p : Nat) : Int) := by
 have h24 : p ≤ 16777216 := by rw [hp]; exact Nat.pow_le_pow_right (n := 2) (by decide) hj
 have hm : b * p ≤ 255 * 16777216 := Nat.mul_le_mul (by omega) h24
 rw [← Int.natCast_mul, or_nat _ _ (by omega) (by omega), hp] at *
 rw [Nat.or_comm, Nat.mul_comm, ← Nat.two_pow_add_eq_or_of_lt hr, Nat.add_comm]
theorem mul_byte (b : UInt8) (p : Int) (h0 : 0 ≤ p) (h1 : p ≤ 16777216) : wrap64 (p * (b.toNat : Int)) = p * (b.toNat : Int) := by
 have h := byte_lt b
 have h2 : 0 ≤ p * (b.toNat : Int) := Int.mul_nonneg h0 (by omega)
 have h3 : p * (b.toNat : Int) ≤ 16777216 * 255 := Int.mul_le_mul h1 (by omega) (by omega) (by omega)
 exact wrap64_in _ (by omega) (by omega)
theorem byte_mul (b : UInt8) (p : Int) (h0 : 0 ≤ p) (h1 : p ≤ 16777216) : wrap64 ((b.toNat : Int) * p) = (b.toNat : Int) * p := by
 rw [Int.mul_comm]; exact mul_byte b p h0 h1
theorem four_eq (b0 b1 b2 b3 : UInt8) :
  bits .or .i64 (bits .or .i64 (bits .or .i64 (bits .or .i64 0 (wrap64 (wrap64 (b0.toNat : Int)))) (wrap64 (wrap64 (b1.toNat : Int) * 256)))
   (wrap64 (wrap64 (b2.toNat : Int) * 65536))) (wrap64 (wrap64 (b3.toNat : Int) * 16777216)) = four b0 b1 b2 b3 := by
 have h0 := byte_lt b0
 have h1 := byte_lt b1
 have h2 := byte_lt b2
 have h3 := byte_lt b3
 have e0 : bits .or .i64 0 (b0.toNat : Int) = (b0.toNat : Int) := by
  have := or_nat 0 b0.toNat (by omega) (by omega)
  rw [Nat.zero_or] at this
  exact this
 have e1 : bits .or .i64 (b0.toNat : Int) ((b1.toNat : Int) * 256) = _ := or_shift b0.toNat b1.toNat 8 256 rfl h0 h1 (by omega)
 have e2 : bits .or .i64 ((b0.toNat + b1.toNat * 256 : Nat) : Int) ((b2.toNat : Int) * 65536) = _ := or_shift (b0.toNat + b1.toNat * 256) b2.toNat 16 65536 rfl (by omega) h2 (by omega)
 have e3 : bits .or .i64 ((b0.toNat + b1.toNat * 256 + b2.toNat * 65536 : Nat) : Int) ((b3.toNat : Int) * 16777216) = _ := or_shift (b0.toNat + b1.toNat * 256 + b2.toNat * 65536) b3.toNat 24 16777216 rfl (by omega) h3 (by omega)
 rw [wrap64_byte', wrap64_byte', wrap64_byte', wrap64_byte', wrap64_byte', byte_mul b1 256 (by decide) (by decide), byte_mul b2 65536 (by decide) (by decide), byte_mul b3 16777216 (by decide) (by decide), e0, e1, e2, e3]
 clear e0 e1 e2 e3
 unfold four; omega
theorem four_of (s : ByteArray) (h : s.size = 4) : ∃ b0 b1 b2 b3, s = ⟨#[b0, b1, b2, b3]⟩ := by
 obtain ⟨d⟩ := s
 obtain ⟨l⟩ := d
 match l, h with
 | [b0, b1, b2, b3], _ => exact ⟨b0, b1, b2, b3, rfl⟩
end Wd

theorem ret_ib {k : IntKind} {a b : Int} {x : Bool} (h : a = b) : Ending.returned (.tuple #[.int k a, .bool x]) = .returned (.tuple #[.int k b, .bool x]) := by rw [h]

theorem bytes_any (a : Int) (w : World) :
  Calls Tryz.prog 78 #[.int .i64 a] w fun e w' => e = .returned (.string (Wd.bytes a)) ∧ Below w.heap.size w w' := by
 have hr := run_str4 w
 go_enter Tryz.func78, Tryz.ntmps78
 go_wp2
 refine wp_loop_rounds 5 ?_
 iterate 5 (rw [rounds_succ]; go_wp2_with (go_at_call 106; refine (shr_any _ _ _).mono ?_; rintro e w' ⟨rfl, rfl⟩))
 go_ret
 exact ⟨ret_str (Wd.bytes_eq a), (Below.refl _ _).alloc (Nat.le_refl _) _⟩
theorem rbytes_any (a : Int) (w : World) :
  Calls Tryz.prog 60 #[.int .i64 a] w fun e w' => e = .returned (.string (Wd.bytes a)) ∧ Below w.heap.size w w' := by
 have ha := Wd.wrap_bd a
 have hr := run_str4 w
 go_enter Tryz.func60, Tryz.ntmps60
 go_wp2_with (go_at_call 88; refine (rwrap_any _ _).mono ?_; rintro e w' ⟨rfl, rfl⟩)
 go_ret
 exact ⟨rfl, (Below.refl _ _).alloc (Nat.le_refl _) _⟩
theorem of_yes (b0 b1 b2 b3 : UInt8) (w : World) :
  Calls Tryz.prog 62 #[.string ⟨#[b0, b1, b2, b3]⟩] w fun e w' => e = .returned (.tuple #[.int .i64 (Wd.four b0 b1 b2 b3), .bool true]) ∧ w = w' := by
 go_enter Tryz.func62, Tryz.ntmps62
 go_wp2
 refine wp_loop_rounds 5 ?_
 iterate 5 (rw [rounds_succ]; go_wp2)
 go_ret2
 exact ⟨ret_ib (Wd.four_eq b0 b1 b2 b3), rfl⟩
end Go.Proofs.YthciobjklhkkcaaGreat
end
section
namespace Go.Proofs.YthciobjklhkkcaaGreat
open Go.ChangeShapes Go.WideShapes Go.ChangeAt Go.RowKit
set_option maxHeartbeats 4000000
set_option maxRecDepth 100000

theorem within_no8 (lop lrd lrn lrm lra limm lcond : Int) (lwide : Bool) (op rd rn rm ra imm cond : Int) (wide : Bool) (hop hrd hrn hrm hra himm hcond : Int) (hwide : Bool) (w : World) (g0 : lrd ≤ rd) (g1 : rd ≤ hrd) (g2 : lrn ≤ rn) (g3 : rn ≤ hrn) (g4 : lrm ≤ rm) (g5 : rm ≤ hrm) (g6 : lra ≤ ra) (g7 : ra ≤ hra) (n8 : decide (limm ≤ imm) = false) :
  Calls Tryz.prog 158 #[.agg #[.int .i64 lop, .int .i64 lrd, .int .i64 lrn, .int .i64 lrm, .int .i64 lra, .int .i64 limm, .int .i64 lcond, .bool lwide], .agg #[.int .i64 op, .int .i64 rd, .int .i64 rn, .int .i64 rm, .int .i64 ra, .int .i64 imm, .int .i64 cond, .bool wide], .agg #[.int .i64 hop, .int .i64 hrd, .int .i64 hrn, .int .i64 hrm, .int .i64 hra, .int .i64 himm, .int .i64 hcond, .bool hwide]] w fun e w' => e = .returned (.bool false) ∧ Below w.heap.size w w' := by
 go_enter Tryz.func158, Tryz.ntmps158
 go_wp2_with (first | go_skip | ((with_reducible refine wpList_take ?_ ?_); exact rfl; intro _ _))
 all_goals (go_ret; exact ⟨rfl, by go_grown⟩)

theorem within_no9 (lop lrd lrn lrm lra limm lcond : Int) (lwide : Bool) (op rd rn rm ra imm cond : Int) (wide : Bool) (hop hrd hrn hrm hra himm hcond : Int) (hwide : Bool) (w : World) (g0 : lrd ≤ rd) (g1 : rd ≤ hrd) (g2 : lrn ≤ rn) (g3 : rn ≤ hrn) (g4 : lrm ≤ rm) (g5 : rm ≤ hrm) (g6 : lra ≤ ra) (g7 : ra ≤ hra) (g8 : limm ≤ imm) (n9 : decide (imm ≤ himm) = false) :
  Calls Tryz.prog 158 #[.agg #[.int .i64 lop, .int .i64 lrd, .int .i64 lrn, .int .i64 lrm, .int .i64 lra, .int .i64 limm, .int .i64 lcond, .bool lwide], .agg #[.int .i64 op, .int .i64 rd, .int .i64 rn, .int .i64 rm, .int .i64 ra, .int .i64 imm, .int .i64 cond, .bool wide], .agg #[.int .i64 hop, .int .i64 hrd, .int .i64 hrn, .int .i64 hrm, .int .i64 hra, .int .i64 himm, .int .i64 hcond, .bool hwide]] w fun e w' => e = .returned (.bool false) ∧ Below w.heap.size w w' := by
 go_enter Tryz.func158, Tryz.ntmps158
 go_wp2_with (first | go_skip | ((with_reducible refine wpList_take ?_ ?_); exact rfl; intro _ _))
 all_goals (go_ret; exact ⟨rfl, by go_grown⟩)

theorem within_no10 (lop lrd lrn lrm lra limm lcond : Int) (lwide : Bool) (op rd rn rm ra imm cond : Int) (wide : Bool) (hop hrd hrn hrm hra himm hcond : Int) (hwide : Bool) (w : World) (g0 : lrd ≤ rd) (g1 : rd ≤ hrd) (g2 : lrn ≤ rn) (g3 : rn ≤ hrn) (g4 : lrm ≤ rm) (g5 : rm ≤ hrm) (g6 : lra ≤ ra) (g7 : ra ≤ hra) (g8 : limm ≤ imm) (g9 : imm ≤ himm) (n10 : decide (lcond ≤ cond) = false) :
  Calls Tryz.prog 158 #[.agg #[.int .i64 lop, .int .i64 lrd, .int .i64 lrn, .int .i64 lrm, .int .i64 lra, .int .i64 limm, .int .i64 lcond, .bool lwide], .agg #[.int .i64 op, .int .i64 rd, .int .i64 rn, .int .i64 rm, .int .i64 ra, .int .i64 imm, .int .i64 cond, .bool wide], .agg #[.int .i64 hop, .int .i64 hrd, .int .i64 hrn, .int .i64 hrm, .int .i64 hra, .int .i64 himm, .int .i64 hcond, .bool hwide]] w fun e w' => e = .returned (.bool false) ∧ Below w.heap.size w w' := by
 go_enter Tryz.func158, Tryz.ntmps158
 go_wp2_with (first | go_skip | ((with_reducible refine wpList_take ?_ ?_); exact rfl; intro _ _))
 all_goals (go_ret; exact ⟨rfl, by go_grown⟩)

end Go.Proofs.YthciobjklhkkcaaGreat
end
section
namespace Go.Proofs.YthciobjklhkkcaaGreat
open Go.ChangeShapes Go.WideShapes Go.ChangeAt Go.RowKit
set_option maxHeartbeats 4000000
set_option maxRecDepth 100000

theorem within_no5 (lop lrd lrn lrm lra limm lcond : Int) (lwide : Bool) (op rd rn rm ra imm cond : Int) (wide : Bool) (hop hrd hrn hrm hra himm hcond : Int) (hwide : Bool) (w : World) (g0 : lrd ≤ rd) (g1 : rd ≤ hrd) (g2 : lrn ≤ rn) (g3 : rn ≤ hrn) (g4 : lrm ≤ rm) (n5 : decide (rm ≤ hrm) = false) :
  Calls Tryz.prog 158 #[.agg #[.int .i64 lop, .int .i64 lrd, .int .i64 lrn, .int .i64 lrm, .int .i64 lra, .int .i64 limm, .int .i64 lcond, .bool lwide], .agg #[.int .i64 op, .int .i64 rd, .int .i64 rn, .int .i64 rm, .int .i64 ra, .int .i64 imm, .int .i64 cond, .bool wide], .agg #[.int .i64 hop, .int .i64 hrd, .int .i64 hrn, .int .i64 hrm, .int .i64 hra, .int .i64 himm, .int .i64 hcond, .bool hwide]] w fun e w' => e = .returned (.bool false) ∧ Below w.heap.size w w' := by
 go_enter Tryz.func158, Tryz.ntmps158
 go_wp2_with (first | go_skip | ((with_reducible refine wpList_take ?_ ?_); exact rfl; intro _ _))
 all_goals (go_ret; exact ⟨rfl, by go_grown⟩)

theorem within_no6 (lop lrd lrn lrm lra limm lcond : Int) (lwide : Bool) (op rd rn rm ra imm cond : Int) (wide : Bool) (hop hrd hrn hrm hra himm hcond : Int) (hwide : Bool) (w : World) (g0 : lrd ≤ rd) (g1 : rd ≤ hrd) (g2 : lrn ≤ rn) (g3 : rn ≤ hrn) (g4 : lrm ≤ rm) (g5 : rm ≤ hrm) (n6 : decide (lra ≤ ra) = false) :
  Calls Tryz.prog 158 #[.agg #[.int .i64 lop, .int .i64 lrd, .int .i64 lrn, .int .i64 lrm, .int .i64 lra, .int .i64 limm, .int .i64 lcond, .bool lwide], .agg #[.int .i64 op, .int .i64 rd, .int .i64 rn, .int .i64 rm, .int .i64 ra, .int .i64 imm, .int .i64 cond, .bool wide], .agg #[.int .i64 hop, .int .i64 hrd, .int .i64 hrn, .int .i64 hrm, .int .i64 hra, .int .i64 himm, .int .i64 hcond, .bool hwide]] w fun e w' => e = .returned (.bool false) ∧ Below w.heap.size w w' := by
 go_enter Tryz.func158, Tryz.ntmps158
 go_wp2_with (first | go_skip | ((with_reducible refine wpList_take ?_ ?_); exact rfl; intro _ _))
 all_goals (go_ret; exact ⟨rfl, by go_grown⟩)

theorem within_no7 (lop lrd lrn lrm lra limm lcond : Int) (lwide : Bool) (op rd rn rm ra imm cond : Int) (wide : Bool) (hop hrd hrn hrm hra himm hcond : Int) (hwide : Bool) (w : World) (g0 : lrd ≤ rd) (g1 : rd ≤ hrd) (g2 : lrn ≤ rn) (g3 : rn ≤ hrn) (g4 : lrm ≤ rm) (g5 : rm ≤ hrm) (g6 : lra ≤ ra) (n7 : decide (ra ≤ hra) = false) :
  Calls Tryz.prog 158 #[.agg #[.int .i64 lop, .int .i64 lrd, .int .i64 lrn, .int .i64 lrm, .int .i64 lra, .int .i64 limm, .int .i64 lcond, .bool lwide], .agg #[.int .i64 op, .int .i64 rd, .int .i64 rn, .int .i64 rm, .int .i64 ra, .int .i64 imm, .int .i64 cond, .bool wide], .agg #[.int .i64 hop, .int .i64 hrd, .int .i64 hrn, .int .i64 hrm, .int .i64 hra, .int .i64 himm, .int .i64 hcond, .bool hwide]] w fun e w' => e = .returned (.bool false) ∧ Below w.heap.size w w' := by
 go_enter Tryz.func158, Tryz.ntmps158
 go_wp2_with (first | go_skip | ((with_reducible refine wpList_take ?_ ?_); exact rfl; intro _ _))
 all_goals (go_ret; exact ⟨rfl, by go_grown⟩)

end Go.Proofs.YthciobjklhkkcaaGreat
end
section
namespace Go.Proofs.YthciobjklhkkcaaGreat
open Go.ChangeShapes Go.WideShapes Go.ChangeAt Go.RowKit
set_option maxHeartbeats 4000000
set_option maxRecDepth 100000

theorem within_no2 (lop lrd lrn lrm lra limm lcond : Int) (lwide : Bool) (op rd rn rm ra imm cond : Int) (wide : Bool) (hop hrd hrn hrm hra himm hcond : Int) (hwide : Bool) (w : World) (g0 : lrd ≤ rd) (g1 : rd ≤ hrd) (n2 : decide (lrn ≤ rn) = false) :
  Calls Tryz.prog 158 #[.agg #[.int .i64 lop, .int .i64 lrd, .int .i64 lrn, .int .i64 lrm, .int .i64 lra, .int .i64 limm, .int .i64 lcond, .bool lwide], .agg #[.int .i64 op, .int .i64 rd, .int .i64 rn, .int .i64 rm, .int .i64 ra, .int .i64 imm, .int .i64 cond, .bool wide], .agg #[.int .i64 hop, .int .i64 hrd, .int .i64 hrn, .int .i64 hrm, .int .i64 hra, .int .i64 himm, .int .i64 hcond, .bool hwide]] w fun e w' => e = .returned (.bool false) ∧ Below w.heap.size w w' := by
 go_enter Tryz.func158, Tryz.ntmps158
 go_wp2_with (first | go_skip | ((with_reducible refine wpList_take ?_ ?_); exact rfl; intro _ _))
 all_goals (go_ret; exact ⟨rfl, by go_grown⟩)

theorem within_no3 (lop lrd lrn lrm lra limm lcond : Int) (lwide : Bool) (op rd rn rm ra imm cond : Int) (wide : Bool) (hop hrd hrn hrm hra himm hcond : Int) (hwide : Bool) (w : World) (g0 : lrd ≤ rd) (g1 : rd ≤ hrd) (g2 : lrn ≤ rn) (n3 : decide (rn ≤ hrn) = false) :
  Calls Tryz.prog 158 #[.agg #[.int .i64 lop, .int .i64 lrd, .int .i64 lrn, .int .i64 lrm, .int .i64 lra, .int .i64 limm, .int .i64 lcond, .bool lwide], .agg #[.int .i64 op, .int .i64 rd, .int .i64 rn, .int .i64 rm, .int .i64 ra, .int .i64 imm, .int .i64 cond, .bool wide], .agg #[.int .i64 hop, .int .i64 hrd, .int .i64 hrn, .int .i64 hrm, .int .i64 hra, .int .i64 himm, .int .i64 hcond, .bool hwide]] w fun e w' => e = .returned (.bool false) ∧ Below w.heap.size w w' := by
 go_enter Tryz.func158, Tryz.ntmps158
 go_wp2_with (first | go_skip | ((with_reducible refine wpList_take ?_ ?_); exact rfl; intro _ _))
 all_goals (go_ret; exact ⟨rfl, by go_grown⟩)

theorem within_no4 (lop lrd lrn lrm lra limm lcond : Int) (lwide : Bool) (op rd rn rm ra imm cond : Int) (wide : Bool) (hop hrd hrn hrm hra himm hcond : Int) (hwide : Bool) (w : World) (g0 : lrd ≤ rd) (g1 : rd ≤ hrd) (g2 : lrn ≤ rn) (g3 : rn ≤ hrn) (n4 : decide (lrm ≤ rm) = false) :
  Calls Tryz.prog 158 #[.agg #[.int .i64 lop, .int .i64 lrd, .int .i64 lrn, .int .i64 lrm, .int .i64 lra, .int .i64 limm, .int .i64 lcond, .bool lwide], .agg #[.int .i64 op, .int .i64 rd, .int .i64 rn, .int .i64 rm, .int .i64 ra, .int .i64 imm, .int .i64 cond, .bool wide], .agg #[.int .i64 hop, .int .i64 hrd, .int .i64 hrn, .int .i64 hrm, .int .i64 hra, .int .i64 himm, .int .i64 hcond, .bool hwide]] w fun e w' => e = .returned (.bool false) ∧ Below w.heap.size w w' := by
 go_enter Tryz.func158, Tryz.ntmps158
 go_wp2_with (first | go_skip | ((with_reducible refine wpList_take ?_ ?_); exact rfl; intro _ _))
 all_goals (go_ret; exact ⟨rfl, by go_grown⟩)

end Go.Proofs.YthciobjklhkkcaaGreat
end
section
namespace Go.Proofs.YthciobjklhkkcaaGreat.Th
open Go.RowKit

def off (imm : Int) : Int := if imm < 0 then imm + 33554432 else imm
def alike (n : Int) (a b : Nat) : Int := if n / 2 ^ a % 2 = n / 2 ^ b % 2 then 1 else 0
def fixed (op : Int) (wide : Bool) : Nat :=
 if op == 1 then 48896 else
 if op == 2 then 48640 else
 if op == 3 then 4064280576 else
 if op == 4 then 4072669184 else
 if op == 5 then 3931045888 else
 if op == 6 then 3931045904 else
 if op == 7 then 3931045920 else
 if op == 8 then 3931045936 else
 if op == 9 then 3933143040 else
 if op == 10 then 3925868544 else
 if op == 11 then 3927965696 else
 if op == 12 then 3930062848 else
 if op == 13 then 3934257152 else
 if op == 14 then 3942645760 else
 if op == 15 then 3953131520 else
 if op == 16 then 4211142656 else
 if op == 17 then 4221566976 else
 if op == 18 then 4083154944 else
 if op == 19 then 26624 else
 if op == 20 then 24576 else
 if op == 21 then 30720 else
 if op == 22 then 28672 else
 if op == 23 then 17024 else
 if op == 24 then (if wide then 4026568704 else 57344) else
 if op == 25 then (if wide then 4026564608 else 53248) else
 0
def fields (i : Ins) : List Fld :=
 if i.op == 2 then [⟨i.imm, 8, 0, 0⟩] else
 if i.op == 3 || i.op == 4 then [⟨i.imm, 1, 11, 26⟩, ⟨i.imm, 4, 12, 16⟩, ⟨i.imm, 3, 8, 12⟩, ⟨i.rd, 4, 0, 8⟩, ⟨i.imm, 8, 0, 0⟩] else
 if i.op == 5 || i.op == 6 || i.op == 7 || i.op == 8 then [⟨i.imm, 3, 2, 12⟩, ⟨i.rd, 4, 0, 8⟩, ⟨i.imm, 2, 0, 6⟩, ⟨i.rm, 4, 0, 0⟩] else
 if i.op == 9 then [⟨i.rd, 4, 0, 8⟩, ⟨i.rm, 4, 0, 0⟩] else
 if i.op == 10 || i.op == 11 || i.op == 12 || i.op == 13 || i.op == 14 || i.op == 15 || i.op == 16 then [⟨i.rn, 4, 0, 16⟩, ⟨i.rd, 4, 0, 8⟩, ⟨i.rm, 4, 0, 0⟩] else
 if i.op == 17 then [⟨i.rn, 4, 0, 16⟩, ⟨i.rd, 4, 0, 12⟩, ⟨i.ra, 4, 0, 8⟩, ⟨i.rm, 4, 0, 0⟩] else
 if i.op == 18 then [⟨i.rn, 4, 0, 16⟩, ⟨i.imm, 3, 2, 12⟩, ⟨i.rd, 4, 0, 8⟩, ⟨i.imm, 2, 0, 6⟩, ⟨(i.imm + i.ra - 1), 5, 0, 0⟩] else
 if i.op == 19 || i.op == 20 || i.op == 21 || i.op == 22 then [⟨i.rn, 3, 0, 3⟩, ⟨i.rd, 3, 0, 0⟩] else
 if i.op == 23 then [⟨i.rm, 3, 0, 3⟩, ⟨i.rn, 3, 0, 0⟩] else
 if i.op == 24 then (if i.wide then [⟨(off i.imm), 1, 24, 26⟩, ⟨(off i.imm), 10, 12, 16⟩, ⟨(alike (off i.imm) 23 24), 1, 0, 13⟩, ⟨(alike (off i.imm) 22 24), 1, 0, 11⟩, ⟨(off i.imm), 11, 1, 0⟩] else [⟨(off i.imm), 11, 1, 0⟩]) else
 if i.op == 25 then (if i.wide then [⟨(off i.imm), 1, 20, 26⟩, ⟨i.cond, 4, 0, 22⟩, ⟨(off i.imm), 6, 12, 16⟩, ⟨(off i.imm), 1, 18, 13⟩, ⟨(off i.imm), 1, 19, 11⟩, ⟨(off i.imm), 11, 1, 0⟩] else [⟨i.cond, 4, 0, 8⟩, ⟨(off i.imm), 8, 1, 0⟩]) else
 []
def num (i : Ins) : Nat := put (fixed i.op i.wide) (fields i)
def encS (i : Ins) : ByteArray := if check i = 0 then (if size i = 2 then str2 (num i) else str4 (num i)) else ⟨#[]⟩
end Go.Proofs.YthciobjklhkkcaaGreat.Th
end
