/-
 Package machine: what do returns; the closure that attempt defers.
-/
import Derived.Defers
import Derived.Recover
import Derived.Laws.Pointers
import Derived.Test.YthciobjklhkkcaaGreatMachH
namespace Go.Proofs.YthciobjklhkkcaaGreat
open Go.ChangeShapes Go.WideShapes Go.ChangeAt Go.RowKit
set_option maxHeartbeats 8000000
set_option maxRecDepth 10000
set_option linter.unusedVariables false
set_option linter.unusedSimpArgs false

theorem do_any (b : Nat) (l : My.Loc) (s : My.St) (hd : Int) (m : Mc.M) (op rd rn rm ra imm cond : Int) (wide : Bool) (w : World) (hm : MacAt w b l s hd m) :
  Calls Tryz.prog 58 #[.pointer (some ⟨b, 0, none⟩), .agg #[.int .i64 op, .int .i64 rd, .int .i64 rn, .int .i64 rm, .int .i64 ra, .int .i64 imm, .int .i64 cond, .bool wide]] w fun e w' =>
   if (Mc.acc (Mc.xOf s hd) m ⟨op, rd, rn, rm, ra, imm, cond, wide⟩).err = 0 then (e = .returned (.agg #[.int .i64 0, .int .i64 m.st.pc, .int .i64 (Mc.acc (Mc.xOf s hd) m ⟨op, rd, rn, rm, ra, imm, cond, wide⟩).addr, .int .i64 (Cs.cycles m.st ⟨op, rd, rn, rm, ra, imm, cond, wide⟩)]) ∧ MacAt w' b l s hd ⟨Cs.stepS m.st ⟨op, rd, rn, rm, ra, imm, cond, wide⟩ (Mc.acc (Mc.xOf s hd) m ⟨op, rd, rn, rm, ra, imm, cond, wide⟩).ld, (Mc.acc (Mc.xOf s hd) m ⟨op, rd, rn, rm, ra, imm, cond, wide⟩).mem, !Cs.stepB ⟨op, rd, rn, rm, ra, imm, cond, wide⟩⟩ ∧ Rest (Mc.mine b l) w w')
   else (e = gaveUp (Mc.acc (Mc.xOf s hd) m ⟨op, rd, rn, rm, ra, imm, cond, wide⟩).addr ∧ MacAt w' b l s hd { m with mem := (Mc.acc (Mc.xOf s hd) m ⟨op, rd, rn, rm, ra, imm, cond, wide⟩).mem } ∧ Rest (Mc.mine b l) w w') :=
 do_gen b l s hd m op rd rn rm ra imm cond wide _ _ _ _ _ _ _ w (Lib.hid hm) (Lib.hid fun W h => macc_any b l s hd m op rd rn rm ra imm cond wide W h) (Lib.hid fun W => step_any m.st op rd rn rm ra imm cond _ wide W) (Lib.hid fun W => cycles_any m.st op rd rn rm ra imm cond wide W)
/-- what attempt's closure holds: variables of the machine, the PC, the event; a machine -/
structure At3 (W : World) (bm bp bv : Nat) (b : Nat) (l : My.Loc) (s : My.St) (hd : Int) (m : Mc.M) (pc : Int) (ec : Array Value) : Prop where
 cm : W.cell? ⟨bm, 0, none⟩ = some (.pointer (some ⟨b, 0, none⟩))
 cp : W.cell? ⟨bp, 0, none⟩ = some (.int .i64 pc)
 ev : Blk W bv 49 4 ec
 mac : MacAt W b l s hd m
 off : Mc.off b l bm ∧ Mc.off b l bp ∧ Mc.off b l bv
 ne : bm ≠ bv ∧ bp ≠ bv
section
variable {W W' : World} {bm bp bv b : Nat} {l : My.Loc} {s : My.St} {hd : Int} {m m' : Mc.M} {pc : Int} {ec ds : Array Value}
theorem At3.kept (h : At3 W bm bp bv b l s hd m pc ec) (hb : Below W.heap.size W W') : At3 W' bm bp bv b l s hd m pc ec :=
 ⟨by rw [hb.cell (cell_lt h.cm)]; exact h.cm, by rw [hb.cell (cell_lt h.cp)]; exact h.cp, h.ev.kept hb, h.mac.kept hb, h.off, h.ne⟩
theorem At3.moved (h : At3 W bm bp bv b l s hd m pc ec) (hr : Rest (Mc.mine b l) W W') (hm : MacAt W' b l s hd m') : At3 W' bm bp bv b l s hd m' pc ec :=
 ⟨by rw [hr.cell (cell_lt h.cm) h.off.1.1]; exact h.cm, by rw [hr.cell (cell_lt h.cp) h.off.2.1.1]; exact h.cp, h.ev.rest hr h.off.2.2.1, hm, h.off, h.ne⟩
theorem At3.evRow (h : At3 W bm bp bv b l s hd m pc ec) (hd' : ds.size = 4) : At3 (W.setRow bv ds) bm bp bv b l s hd m pc ds :=
 ⟨by rw [cell_setRow_other _ _ _ _ (fun e => h.ne.1 (by first | exact e | exact e.symm))]; exact h.cm, by rw [cell_setRow_other _ _ _ _ (fun e => h.ne.2 (by first | exact e | exact e.symm))]; exact h.cp, h.ev.row hd', h.mac.otherRow _ _ h.off.2.2, h.off, h.ne⟩
end
theorem run_ta (v : Value) (w : World) : (Instr.typeAssert (.iface 120 v) 20 120 true).run Tryz.prog w = .ok (.tuple #[v, .bool true]) w := by
 unfold Instr.typeAssert
 simp [go_sem, run_underlying Tryz.underlying120]
theorem run_ta0 (w : World) : (Instr.typeAssert .nilIface 20 120 true).run Tryz.prog w = .ok (.tuple #[.agg #[.int .i64 0], .bool false]) w := by
 unfold Instr.typeAssert
 simp [go_sem, run_underlying Tryz.underlying120]
theorem catch_p (bm bp bv b : Nat) (l : My.Loc) (s : My.St) (hd : Int) (m : Mc.M) (pc ad : Int) (ec : Array Value) (w : World) (H : Hid (At3 w bm bp bv b l s hd m pc ec)) :
  CallsD Tryz.prog 55 #[.pointer (some ⟨bm, 0, none⟩), .pointer (some ⟨bp, 0, none⟩), .pointer (some ⟨bv, 0, none⟩)] (.panicking ({ v := .iface 120 (.agg #[.int .i64 ad]), recovered := false } :: [])) w fun e u' w' =>
   e = .returned (.tuple #[]) ∧ u' = .panicking ({ v := .iface 120 (.agg #[.int .i64 ad]), recovered := true } :: []) ∧ At3 w' bm bp bv b l s hd { m with st := { m.st with pc := hd } } pc #[.int .i64 2, .int .i64 pc, .int .i64 ad, .int .i64 12] ∧ Rest (fun k => Mc.mine b l k ∨ k = bv) w w' := by
 refine callsD_of_wpS Tryz.func55 rfl fun c₀ cs hu => ?_
 apply wpS_seq
 apply wpS_region
 change wpOpsS _ _ _ [0, 1, 2, 3, 4, 5, 6, 7] _ _ _
 generalize hQ : Exit.thenS (Code.wpS _ _ _) _ = Q
 simp only [Tryz.ntmps55, List.size_toArray, List.length_cons, List.length_nil, Nat.reduceAdd, Nat.reduceSub, Array.replicate_succ, Array.replicate_zero, List.push_toArray, List.append_toArray, List.nil_append, List.cons_append]
 simp [wpOpsS, go_sem, recoverD, hu, run_ta]
 subst hQ
 simp only [Exit.thenS]
 refine wpS_of_wp ?_
 obtain ⟨V, hV⟩ : ∃ V, w.alloc (.cells #[.int .i64 ad] 120) = V := ⟨_, rfl⟩
 have hbV : Below w.heap.size w V := by rw [← hV]; exact (Below.refl _ _).alloc (Nat.le_refl _) _
 have hcV : V.cell? ⟨w.heap.size, 0, none⟩ = some (.int .i64 ad) := by rw [← hV]; simp [go_sem]
 have hlV : w.heap.size < V.heap.size := by rw [← hV]; simp
 have HV := Lib.hid (H.out.kept hbV)
 rw [hV]
 clear hV
 have cm := HV.out.cm
 have ch := HV.out.mac.handler
 go_wp2
 go_still_tail 8, (by kernel_rfl)
 repeat still_step
 try refine wpStill_nil ?_
 change wpList _ _ _ _ _ V.drew
 have HD := Lib.hid (HV.out.kept (Below.refl _ _).drew)
 have hcD : V.drew.cell? ⟨w.heap.size, 0, none⟩ = some (.int .i64 ad) := hcV
 have HR : Hid (Below w.heap.size w V.drew) := Lib.hid hbV.drew
 clear cm ch HV hcV hbV
 generalize V.drew = D at *
 have c18 := HD.out.mac.pc
 have fz := HD.out.mac.open 18
 have cp := HD.out.cp
 have HU := Lib.hid (HD.out.moved (rest_setCell D ⟨b, 18, none⟩ (.int .i64 hd) (.inl rfl)) (HD.out.mac.setPc hd))
 go_wp2_with ((with_reducible refine wpList_store_blk evT HU.out.ev (fits4 2 pc ad 12) ?_ ?_); exact rfl)
 have hE := HU.out.evRow (ds := #[.int .i64 2, .int .i64 pc, .int .i64 ad, .int .i64 12]) rfl
 have hR : Rest (fun k => Mc.mine b l k ∨ k = bv) w ((D.setCell ⟨b, 18, none⟩ (.int .i64 hd)).setRow bv #[.int .i64 2, .int .i64 pc, .int .i64 ad, .int .i64 12]) := ((Rest.of HR.out).trans (rest_setCell D ⟨b, 18, none⟩ (.int .i64 hd) (.inl (.inl rfl)))).trans (Rest.setRow (.inr rfl) _)
 exact ⟨rfl, _, rfl, .tuple #[], by simp [results, Tryz.results55, go_sem], rfl, rfl, hE, hR⟩
theorem catch_idle (bm bp bv b : Nat) (l : My.Loc) (s : My.St) (hd : Int) (m : Mc.M) (pc : Int) (ec : Array Value) (w : World) (H : Hid (At3 w bm bp bv b l s hd m pc ec)) :
  CallsD Tryz.prog 55 #[.pointer (some ⟨bm, 0, none⟩), .pointer (some ⟨bp, 0, none⟩), .pointer (some ⟨bv, 0, none⟩)] .returning w fun e u' w' =>
   e = .returned (.tuple #[]) ∧ u' = .returning ∧ Below w.heap.size w w' := by
 refine callsD_of_wpS Tryz.func55 rfl fun c₀ cs hu => ?_
 apply wpS_seq
 apply wpS_region
 change wpOpsS _ _ _ [0, 1, 2, 3, 4, 5, 6, 7] _ _ _
 generalize hQ : Exit.thenS (Code.wpS _ _ _) _ = Q
 simp only [Tryz.ntmps55, List.size_toArray, List.length_cons, List.length_nil, Nat.reduceAdd, Nat.reduceSub, Array.replicate_succ, Array.replicate_zero, List.push_toArray, List.append_toArray, List.nil_append, List.cons_append]
 simp [wpOpsS, go_sem, recoverD, hu, run_ta0]
 subst hQ
 simp only [Exit.thenS]
 refine wpS_of_wp ?_
 go_wp2
 exact ⟨rfl, c₀.mode, by cases c₀; rfl, .tuple #[], by simp [results, Tryz.results55, go_sem], rfl, hu, by go_grown⟩
end Go.Proofs.YthciobjklhkkcaaGreat
