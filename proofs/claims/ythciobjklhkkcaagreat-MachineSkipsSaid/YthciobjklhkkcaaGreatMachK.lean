/-
 Package machine: what attempt, Done, State and Step return.
-/
import Derived.StillTailTactics
import Derived.Test.YthciobjklhkkcaaGreatMachJ
namespace Go.Proofs.YthciobjklhkkcaaGreat
open Go.ChangeShapes Go.WideShapes Go.ChangeAt Go.RowKit
set_option maxHeartbeats 8000000
set_option maxRecDepth 10000
set_option linter.unusedVariables false
set_option linter.unusedSimpArgs false

theorem attempt_any (b : Nat) (l : My.Loc) (s : My.St) (hd : Int) (m : Mc.M) (skip : Bool) (w : World) (hm : MacAt w b l s hd m) (hp : 0 ≤ m.st.pc) :
  Calls Tryz.prog 35 #[.pointer (some ⟨b, 0, none⟩), .bool skip] w fun e w' => e = .returned (.agg (Mc.evC (Mc.act (Mc.xOf s hd) m skip).2)) ∧ MacAt w' b l s hd (Mc.act (Mc.xOf s hd) m skip).1 ∧ Rest (Mc.mine b l) w w' := by
 obtain ⟨P, hP⟩ := Int.eq_ofNat_of_zero_le hp
 have HP := Lib.hid hP
 by_cases h1 : (P : Int) % 2 = 0
 rotate_left
 ·have e : Mc.act (Mc.xOf s hd) m skip = Mc.trap (Mc.xOf s hd) m 0 := Mc.act_trap _ _ (.inl (by rw [hP]; exact h1)) _
  rw [e]
  exact att_bad b l s hd m _ skip w (Lib.hid hm) rfl (Lib.hid fun W h => fetch_odd b l s hd m W P (Lib.hid h) HP h1)
 by_cases h2 : P < s.fl.size
 rotate_left
 ·have e : Mc.act (Mc.xOf s hd) m skip = Mc.trap (Mc.xOf s hd) m 0 := Mc.act_trap _ _ (.inr (.inl (by rw [hP]; show (s.fl.size : Int) ≤ _; omega))) _
  rw [e]
  exact att_bad b l s hd m _ skip w (Lib.hid hm) rfl (Lib.hid fun W h => fetch_far b l s hd m W P (Lib.hid h) HP h1 (by omega))
 by_cases h3 : De.err (Mc.code (Mc.xOf s hd) (P : Int)) = 0
 rotate_left
 ·have e : Mc.act (Mc.xOf s hd) m skip = Mc.trap (Mc.xOf s hd) m 0 := Mc.act_trap _ _ (.inr (.inr (by rw [hP]; exact h3))) _
  rw [e]
  exact att_bad b l s hd m _ skip w (Lib.hid hm) rfl (Lib.hid fun W h => fetch_err b l s hd m W P _ (Lib.hid h) HP h1 h2 (Lib.hid rfl) h3)
 rcases hI : De.ins (Mc.code (Mc.xOf s hd) (P : Int)) with ⟨op, rd, rn, rm, ra, imm, cond, wide⟩
 have HT : Hid (Told (Mc.code (Mc.xOf s hd) P) ⟨op, rd, rn, rm, ra, imm, cond, wide⟩ (De.len (Mc.code (Mc.xOf s hd) (P : Int)) : Int) 0) := Lib.hid ⟨hI, rfl, h3⟩
 have HF := Lib.hid (fun (W : World) (h : MacAt W b l s hd m) => fetch_ok b l s hd m W P op rd rn rm ra imm cond _ wide (Lib.hid h) HP h1 h2 HT)
 have hn : ¬ (m.st.pc % 2 ≠ 0 ∨ ((Mc.xOf s hd).fl.size : Int) ≤ m.st.pc) := by
  rw [hP]; show ¬ (_ ∨ (s.fl.size : Int) ≤ _); omega
 cases skip
 rotate_left
 ·have e : Mc.act (Mc.xOf s hd) m true = ({ m with st := { m.st with pc := Wd.add m.st.pc (De.len (Mc.code (Mc.xOf s hd) (P : Int))) } }, ⟨1, m.st.pc, 0, 1⟩) := by
   unfold Mc.act; rw [if_neg hn, hP, if_neg (fun h => h h3), if_pos rfl]
  rw [e]
  exact att_skip b l s hd m _ _ op rd rn rm ra imm cond wide w (Lib.hid hm) rfl HF
 have e : Mc.act (Mc.xOf s hd) m false = Mc.does (Mc.xOf s hd) m ⟨op, rd, rn, rm, ra, imm, cond, wide⟩ := by
  unfold Mc.act; rw [if_neg hn, hP, if_neg (fun h => h h3), if_neg (by decide), hI]
 rw [e]
 have HD := fun (W : World) (h : MacAt W b l s hd m) => do_any b l s hd m op rd rn rm ra imm cond wide W h
 unfold Mc.does
 by_cases h4 : (Mc.acc (Mc.xOf s hd) m ⟨op, rd, rn, rm, ra, imm, cond, wide⟩).err = 0
 ·rw [if_neg (fun h => h h4)]
  simp only [h4, if_true] at HD
  exact att_do b l s hd m _ _ _ _ _ _ _ op rd rn rm ra imm cond wide w (Lib.hid hm) rfl HF (Lib.hid HD)
 ·rw [if_pos h4]
  have hs := Mc.acc_same _ _ _ h4
  simp only [h4, if_false, hs] at HD
  exact att_gave b l s hd m _ _ _ op rd rn rm ra imm cond wide w (Lib.hid hm) rfl HF (Lib.hid HD)
theorem done_any (b : Nat) (l : My.Loc) (s : My.St) (hd : Int) (m : Mc.M) (w : World) (hm : Hid (MacAt w b l s hd m)) :
  Calls Tryz.prog 18 #[.pointer (some ⟨b, 0, none⟩)] w fun e w' => e = .returned (.bool m.done) ∧ w = w' := by
 have c := hm.out.done
 generalize m.done = D at *
 clear hm
 go_enter Tryz.func18, Tryz.ntmps18
 go_wp2
 go_ret
 exact ⟨rfl, rfl⟩
theorem turned_any (s : Cs.St) (f : Mc.F) (w : World) (h : Mc.mayF f = true) :
  Calls Tryz.prog 34 #[.agg (Cs.cells s), .agg #[.int .i64 f.kind, .int .i64 f.step, .int .i64 f.reg, .int .i64 f.bit]] w fun e w' => e = .returned (.agg (Cs.cells (Mc.hit s f))) ∧ Below w.heap.size w w' := by
 obtain ⟨kind, step, reg, bit⟩ := f
 by_cases h2 : kind = 2
 ·subst h2
  have hb : Mc.bel reg 15 = true ∧ Mc.bel bit 32 = true := by simpa [Mc.mayF] using h
  have h1 := hb.1
  simp [Mc.bel] at h1
  obtain ⟨d, rfl⟩ := Int.eq_ofNat_of_zero_le h1.1
  exact turned_flip s step bit d w (by omega)
 by_cases h3 : kind = 3
 ·subst h3
  have hb : Mc.bel bit 4 = true := by simpa [Mc.mayF] using h
  simp [Mc.bel] at hb
  exact turned_flag s step reg bit w hb
 have e : Mc.hit s ⟨kind, step, reg, bit⟩ = s := by simp [Mc.hit, h2, h3]
 rw [e]
 exact turned_none s kind step reg bit w h2 h3
theorem still_load_mac {ops : Array Oper} {rest : List Oper} {o : Oper} {a : Act} {w : World} {Q : Act → Prop} {b : Nat} {l : My.Loc} {s : My.St} {hd : Int} {m : Mc.M} (h : MacAt w b l s hd m) (ho : ldOf a o = some (56, .pointer (some ⟨b, 3, none⟩)))
  (k : wpStill Tryz.prog ops w Q rest (a.put o.dst (.agg (Cs.cells m.st)))) : wpStill Tryz.prog ops w Q (o :: rest) a := by
 obtain ⟨hg, x, ho, hx⟩ := ldOf_eq ho
 have hr := run_loadVar_mid (P := Tryz.prog) w b 3 _ _ _ h.range Tryz.underlying56 rfl info_state
 have hw : Region.wanted o (yielded ops a.tmps) = true := by unfold Region.wanted; rw [hg]
 simp only [wpStill, hw, if_true, Oper.still, execOp, ho, hx, Instr.loadAt, Instr.sureAddr, Sem.run_bind, Sem.run_pure, Result.andThen_ok, hr, Oper.stillUpon]
 first | exact ⟨trivial, k⟩ | exact ⟨k, trivial⟩ | exact k
theorem still_load_blk {ops : Array Oper} {rest : List Oper} {o : Oper} {a : Act} {w : World} {Q : Act → Prop} {b n : Nat} {t : TypeId} {cs : Array Value} (T : StructT t n) (h : Blk w b t n cs) (ho : ldOf a o = some (t, .pointer (some ⟨b, 0, none⟩)))
  (k : wpStill Tryz.prog ops w Q rest (a.put o.dst (.agg cs))) : wpStill Tryz.prog ops w Q (o :: rest) a := by
 obtain ⟨hg, x, ho, hx⟩ := ldOf_eq ho
 obtain ⟨fs, hu⟩ := T.und
 have hr := run_loadVar_row (P := Tryz.prog) w b _ t _ _ _ h.at' hu rfl (by rw [h.size]; exact T.info)
 have hw : Region.wanted o (yielded ops a.tmps) = true := by unfold Region.wanted; rw [hg]
 simp only [wpStill, hw, if_true, Oper.still, execOp, ho, hx, Instr.loadAt, Instr.sureAddr, Sem.run_bind, Sem.run_pure, Result.andThen_ok, hr, Oper.stillUpon]
 first | exact ⟨trivial, k⟩ | exact ⟨k, trivial⟩ | exact k
end Go.Proofs.YthciobjklhkkcaaGreat
