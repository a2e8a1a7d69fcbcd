/-
  Stage 8, for the laws: a state and an instruction that a law has laid; states that are compared.
-/
import Derived.DeepKeys
import Derived.Test.YtennhpfhgbmnfaaCpuL
namespace Go.Proofs.Ytennhpfhgbmnfaa
open Go.ChangeShapes Go.WideShapes Go.ChangeAt Go.RowKit
set_option linter.unusedVariables false

theorem eqItems_same (d : Nat) (e : TypeId) (k : IntKind) (he : Try.prog.plainKey e = true) (hu : Try.prog.underlying e = some (.int k)) (xs : Array Value) (w : World) : ∀ (is : List Nat), (∀ i ∈ is, ∃ n, xs[i * 1]? = some (.int k n)) → (Op.eqItems (d + 1) e 1 xs xs is).run Try.prog w = .ok true w
  | [], _ => rfl
  | i :: is, h => by
    obtain ⟨n, hn⟩ := h i (List.mem_cons_self)
    have ih := eqItems_same d e k he hu xs w is (fun j hj => h j (List.mem_cons_of_mem _ hj))
    simp only [Op.eqItems, Sem.run_bind, run_part_plain w he hn, Result.andThen_ok, run_equalIn_int w d e k k n n hu, beq_self_eq_true, Bool.not_true, Bool.false_eq_true, if_false, ih]
theorem eqFields_same (d : Nat) (xs : Array Value) (w : World) : ∀ (fs : List Field), (∀ f ∈ fs, ∃ a, (part f.type xs f.offset).run Try.prog w = .ok a w ∧ (Op.equalIn d f.type a a).run Try.prog w = .ok true w) → (Op.eqFields d xs xs fs).run Try.prog w = .ok true w
  | [], _ => rfl
  | f :: fs, h => by
    obtain ⟨a, h1, h2⟩ := h f (List.mem_cons_self)
    have ih := eqFields_same d xs w fs (fun j hj => h j (List.mem_cons_of_mem _ hj))
    unfold Op.eqFields
    split
    · simp only [Sem.run_bind, h1, Result.andThen_ok, h2, Bool.not_true, Bool.false_eq_true, if_false, ih]
    · exact ih
theorem state_eq (s : Cs.St) (w : World) : (Op.equalIn 10000 24 (.agg (Cs.cells s)) (.agg (Cs.cells s))).run Try.prog w = .ok true w := by
  have hp : Try.prog.stoodInHeld 24 = false := by kernel_rfl
  have hpi : Try.prog.plainKey 3 = true := by kernel_rfl
  have hpb : Try.prog.plainKey 4 = true := by kernel_rfl
  have hf : (Try.prog.fieldsOf 24).toList.map (fun f => (f.type, f.offset)) = [(22, 0), (3, 15), (4, 16), (4, 17), (4, 18), (4, 19)] := by kernel_rfl
  have hu : Try.prog.underlying 24 = some (.struct (Try.prog.fieldsOf 24)) := by kernel_rfl
  rw [run_equalIn_struct w 9999 _ _ _ hu hp]
  refine eqFields_same _ _ _ _ fun f hm => ?_
  have hm2 : (f.type, f.offset) ∈ (Try.prog.fieldsOf 24).toList.map (fun f => (f.type, f.offset)) := List.mem_map_of_mem hm
  rw [hf] at hm2
  simp only [List.mem_cons, Prod.mk.injEq, List.not_mem_nil, or_false] at hm2
  have bb : ∀ (k : Nat) (x : Bool), (Cs.cells s)[k]? = some (.bool x) → ∃ a, (part 4 (Cs.cells s) k).run Try.prog w = .ok a w ∧ (Op.equalIn 9999 4 a a).run Try.prog w = .ok true w := fun k x hx =>
    ⟨_, run_part_plain w hpb hx, by rw [run_equalIn_bool' w 9998 _ _ _ Try.underlying4, beq_self_eq_true]⟩
  rcases hm2 with ⟨h1, h2⟩ | ⟨h1, h2⟩ | ⟨h1, h2⟩ | ⟨h1, h2⟩ | ⟨h1, h2⟩ | ⟨h1, h2⟩ <;> rw [h1, h2]
  · refine ⟨.agg (Cs.regs s), ?_, ?_⟩
    · have ha : (isAgg 22).run Try.prog w = .ok true w := by simp [isAgg, run_underlying Try.underlying22]
      have hs : (sizeOf 22).run Try.prog w = .ok 15 w := by
        have hi := info_regs
        cases hq : Try.prog.info? 22 with
        | none => rw [hq] at hi; cases hi
        | some i => rw [hq] at hi; simp at hi; simp [sizeOf, typeInfo, hq, hi]
      simp only [part, Sem.run_bind, ha, Result.andThen_ok, if_true, hs, Sem.run_pure]
      rfl
    · have hi : ∃ i, Try.prog.info? 3 = some i ∧ i.size = 1 := by
        have h : (Try.prog.info? 3).map (fun i => i.size) = some 1 := by kernel_rfl
        cases hq : Try.prog.info? 3 with
        | none => rw [hq] at h; cases h
        | some i => rw [hq] at h; simp at h; exact ⟨i, rfl, h⟩
      obtain ⟨i, hi, hs⟩ := hi
      rw [run_equalIn_array w 9998 _ _ Try.underlying22 hi, show Try.prog.cellsOf 3 = 1 by kernel_rfl]
      refine eqItems_same 9997 _ .i64 hpi Try.underlying3 _ _ _ fun j hj => ?_
      rw [Nat.mul_one]
      exact ⟨_, Cs.regs_get s j (by simpa using hj)⟩
  · exact ⟨_, run_part_plain w hpi (Cs.cells_pc s), by rw [run_equalIn_int w 9998 _ .i64 .i64 _ _ Try.underlying3, beq_self_eq_true]⟩
  · exact bb 16 _ (Cs.cells_n s)
  · exact bb 17 _ (Cs.cells_z s)
  · exact bb 18 _ (Cs.cells_c s)
  · exact bb 19 _ (Cs.cells_v s)

/-- a state and an instruction in two blocks; nothing but new memory is other than it was -/
structure Cpu2 (w : World) (n : Nat) (W : World) (s : Cs.St) (op rd rn rm ra imm cond : Int) (wide : Bool) : Prop where
  st : StateAt W n s
  ins : InsAt W (n + 1) op rd rn rm ra imm cond wide
  lt : n + 1 < W.heap.size
  bel : Below n w W
section
variable {w W W' : World} {n : Nat} {s : Cs.St} {op rd rn rm ra imm cond : Int} {wide : Bool}
theorem Cpu2.kept (h : Cpu2 w n W s op rd rn rm ra imm cond wide) (hb : Below W.heap.size W W') : Cpu2 w n W' s op rd rn rm ra imm cond wide := by
  have h1 := h.lt
  have h2 := hb.size
  exact ⟨h.st.below hb, h.ins.below hb (by omega), by omega, h.bel.trans (hb.mono (by omega))⟩
theorem Cpu2.alloc (h : Cpu2 w n W s op rd rn rm ra imm cond wide) (o : Obj) : Cpu2 w n (W.alloc o) s op rd rn rm ra imm cond wide := h.kept ((Below.refl _ _).alloc (Nat.le_refl _) o)
theorem Cpu2.drew (h : Cpu2 w n W s op rd rn rm ra imm cond wide) : Cpu2 w n W.drew s op rd rn rm ra imm cond wide := h.kept (Below.refl _ _).drew
theorem Cpu2.new (w : World) (s : Cs.St) (op rd rn rm ra imm cond : Int) (wide : Bool) :
    Cpu2 w w.heap.size ((w.alloc (.cells (Cs.cells s) 24)).alloc (.cells #[.int .i64 op, .int .i64 rd, .int .i64 rn, .int .i64 rm, .int .i64 ra, .int .i64 imm, .int .i64 cond, .bool wide] 26)) s op rd rn rm ra imm cond wide :=
  ⟨(state_alloc w s).alloc _, ins_alloc2 w s op rd rn rm ra imm cond wide, by simp, ((Below.refl _ _).alloc (Nat.le_refl _) _).alloc (by simp) _⟩
end
theorem yieldsIf_load_st {ops : Array Oper} {S : World → Prop} {o : Oper} {a : Act} {b : Nat} {s : Cs.St} (hw : Region.wanted o (yielded ops a.tmps) = true) (ho : ldOp a o = some (24, .pointer (some ⟨b, 0, none⟩)))
    (hS : ∀ w, S w → StateAt w b s) : YieldsIf Try.prog ops S o (.agg (Cs.cells s)) a := by
  obtain ⟨x, ho, hx⟩ := ldOp_eq ho
  refine .inl ⟨hw, fun w hw' => ?_⟩
  unfold execOp
  simp only [ho, hx, Instr.loadAt, Instr.sureAddr, Sem.run_bind, Sem.run_pure, Result.andThen_ok, run_loadVar_row w b _ _ _ _ _ (hS w hw') Try.underlying24 rfl info_state]
end Go.Proofs.Ytennhpfhgbmnfaa
