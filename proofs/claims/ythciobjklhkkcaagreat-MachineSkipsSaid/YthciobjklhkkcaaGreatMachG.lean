/-
 Package machine: what access and do return.
-/
import Derived.Test.YthciobjklhkkcaaGreatMachF
import Derived.Test.YthciobjklhkkcaaGreatP07a
namespace Go.Proofs.YthciobjklhkkcaaGreat
open Go.ChangeShapes Go.WideShapes Go.ChangeAt Go.RowKit
set_option maxHeartbeats 8000000
set_option maxRecDepth 10000
set_option linter.unusedVariables false
set_option linter.unusedSimpArgs false

theorem My.load_1 (s : My.St) (M : Int → UInt8) (a n : Int) : (My.load s M a n).1 = if My.fe s a n false = 0 then My.num M a n else 0 := by unfold My.load; split <;> rfl
theorem My.load_2 (s : My.St) (M : Int → UInt8) (a n : Int) : (My.load s M a n).2 = My.fe s a n false := by
 unfold My.load
 split
 ·next h => exact h.symm
 ·rfl
theorem Cs.access_bd (s : Cs.St) (i : Th.Ins) : (Cs.access s i).addr ≤ 9223372036854775807 := by
 have h := Wd.wrap_bd (s.r i.rn.toNat)
 unfold Cs.access
 split
 ·show (0 : Int) ≤ _; omega
 split
 ·show Wd.wrap _ ≤ _; omega
 split
 ·show Wd.wrap _ ≤ _; omega
 split
 ·show Wd.wrap _ ≤ _; omega
 split
 ·show Wd.wrap _ ≤ _; omega
 ·show (0 : Int) ≤ _; omega
theorem macc_any (b : Nat) (l : My.Loc) (s : My.St) (hd : Int) (m : Mc.M) (op rd rn rm ra imm cond : Int) (wide : Bool) (w : World) (hm : MacAt w b l s hd m) :
  Calls Tryz.prog 85 #[.pointer (some ⟨b, 0, none⟩), .agg #[.int .i64 op, .int .i64 rd, .int .i64 rn, .int .i64 rm, .int .i64 ra, .int .i64 imm, .int .i64 cond, .bool wide]] w fun e w' => (if (Mc.acc (Mc.xOf s hd) m ⟨op, rd, rn, rm, ra, imm, cond, wide⟩).err = 0 then e = .returned (.tuple #[.int .i64 (Mc.acc (Mc.xOf s hd) m ⟨op, rd, rn, rm, ra, imm, cond, wide⟩).addr, .int .i64 (Mc.acc (Mc.xOf s hd) m ⟨op, rd, rn, rm, ra, imm, cond, wide⟩).ld]) else e = gaveUp (Mc.acc (Mc.xOf s hd) m ⟨op, rd, rn, rm, ra, imm, cond, wide⟩).addr) ∧ MacAt w' b l s hd { m with mem := (Mc.acc (Mc.xOf s hd) m ⟨op, rd, rn, rm, ra, imm, cond, wide⟩).mem } ∧ Rest l.own w w' := by
 have ha : Hid ((Cs.access m.st ⟨op, rd, rn, rm, ra, imm, cond, wide⟩).addr ≤ 9223372036854775807) := Lib.hid (Cs.access_bd _ _)
 have C1 := fun W : World => access_any m.st op rd rn rm ra imm cond wide W
 unfold Mc.acc
 rcases hA : Cs.access m.st ⟨op, rd, rn, rm, ra, imm, cond, wide⟩ with ⟨ad, sz, vl, wr⟩
 rw [hA] at ha C1
 cases hB : Cs.accessB ⟨op, rd, rn, rm, ra, imm, cond, wide⟩
 all_goals rw [hB] at C1
 all_goals cases wr
 ·exact macc_gen b l s hd m op rd rn rm ra imm cond wide ad sz vl (My.load s m.mem ad sz).1 (My.load s m.mem ad sz).2 false false m.mem w (Lib.hid hm) (Lib.hid C1) (Lib.hid fun W h => (moved_load b l s hd m W ad sz vl (Lib.hid h) ha).mono fun e w' g => ⟨g.1, h.kept g.2, Rest.of g.2⟩)
 ·exact macc_gen b l s hd m op rd rn rm ra imm cond wide ad sz vl 0 (My.fe s ad sz true) true false _ w (Lib.hid hm) (Lib.hid C1) (Lib.hid fun W h => moved_store b l s hd m W ad sz vl (Lib.hid h) ha)
 ·have h := macc_gen b l s hd m op rd rn rm ra imm cond wide ad sz vl (My.load s m.mem ad sz).1 (My.load s m.mem ad sz).2 false true m.mem w (Lib.hid hm) (Lib.hid C1) (Lib.hid fun W h => (moved_load b l s hd m W ad sz vl (Lib.hid h) ha).mono fun e w' g => ⟨g.1, h.kept g.2, Rest.of g.2⟩)
  rw [My.load_1, My.load_2] at h
  exact h
 ·exact macc_gen b l s hd m op rd rn rm ra imm cond wide ad sz vl 0 (My.fe s ad sz true) true true _ w (Lib.hid hm) (Lib.hid C1) (Lib.hid fun W h => moved_store b l s hd m W ad sz vl (Lib.hid h) ha)
end Go.Proofs.YthciobjklhkkcaaGreat
