/-
  Plain mathematics of instructions: what the calls of package thumb, and of the document's own thumb, tell, as functions on integers, and their laws. It names nothing of the translated program.
-/
import Derived.WalkKit
namespace Go.Proofs.Ytennhpfhgbmnfaa.Th
open Go.RowKit

structure Ins where
  op : Int
  rd : Int
  rn : Int
  rm : Int
  ra : Int
  imm : Int
  cond : Int
  wide : Bool

theorem Ins.ext' {i k : Ins} (h0 : i.op = k.op) (h1 : i.rd = k.rd) (h2 : i.rn = k.rn) (h3 : i.rm = k.rm) (h4 : i.ra = k.ra) (h5 : i.imm = k.imm) (h6 : i.cond = k.cond) (h7 : i.wide = k.wide) : i = k := by
  cases i; cases k; simp_all

/-! ### the program's own functions, as it writes them -/
def reachLo (op : Int) (wide : Bool) : Int := if op == 24 then (if wide then -16777216 else -2048) else if op == 25 then (if wide then -1048576 else -256) else 0
def reachHi (op : Int) (wide : Bool) : Int := if op == 24 then (if wide then 16777214 else 2046) else if op == 25 then (if wide then 1048574 else 254) else 0
def branch (op : Int) : Bool := op == 24 || op == 25
def reaches (op imm : Int) (wide : Bool) : Bool := decide (reachLo op wide ≤ imm) && decide (imm ≤ reachHi op wide) && imm % 2 == 0
def none0 : Ins := ⟨0, 0, 0, 0, 0, 0, 0, false⟩
def most (op imm : Int) : Ins :=
  if op == 1 then none0
  else if op == 2 then { none0 with imm := 255 }
  else if op == 3 || op == 4 then { none0 with rd := 12, imm := 65535 }
  else if op == 5 || op == 6 || op == 7 || op == 8 then { none0 with rd := 12, rm := 12, imm := 31 }
  else if op == 9 then { none0 with rd := 12, rm := 12 }
  else if op == 10 || op == 11 || op == 12 || op == 13 || op == 14 || op == 15 || op == 16 then { none0 with rd := 12, rn := 12, rm := 12 }
  else if op == 17 then { none0 with rd := 12, rn := 12, rm := 12, ra := 12 }
  else if op == 18 then { none0 with rd := 12, rn := 12, ra := wrap64 (32 - imm), imm := 31 }
  else if op == 19 || op == 20 || op == 21 || op == 22 then { none0 with rd := 7, rn := 7 }
  else if op == 23 then { none0 with rn := 7, rm := 7 }
  else if op == 24 then { none0 with imm := imm, wide := true }
  else if op == 25 then { none0 with imm := imm, cond := 13, wide := true }
  else none0
def known (op rd ra : Int) : Bool := if op == 17 then ra != rd else op == 1 || op == 2 || op == 3 || op == 4 || op == 5 || op == 6 || op == 7 || op == 8 || op == 9 || op == 10 || op == 11 || op == 12 || op == 13 || op == 14 || op == 15 || op == 16 || op == 18 || op == 19 || op == 20 || op == 21 || op == 22 || op == 23 || op == 24 || op == 25
def least (op imm : Int) : Ins :=
  if op == 6 || op == 7 || op == 8 then { none0 with imm := 1 }
  else if op == 18 then { none0 with ra := 1 }
  else if op == 24 || op == 25 then { none0 with imm := imm }
  else none0
def within (l i h : Ins) : Bool :=
  decide (l.rd ≤ i.rd) && decide (i.rd ≤ h.rd) && decide (l.rn ≤ i.rn) && decide (i.rn ≤ h.rn) && decide (l.rm ≤ i.rm) && decide (i.rm ≤ h.rm) &&
  decide (l.ra ≤ i.ra) && decide (i.ra ≤ h.ra) && decide (l.imm ≤ i.imm) && decide (i.imm ≤ h.imm) && decide (l.cond ≤ i.cond) && decide (i.cond ≤ h.cond) && (h.wide || !i.wide)
def fits (i : Ins) : Bool := known i.op i.rd i.ra && within (least i.op i.imm) i (most i.op i.imm)
def check (i : Ins) : Int := if fits i then (if branch i.op && !reaches i.op i.imm i.wide then 6 else 0) else 2
def short (op : Int) : Bool := op == 1 || op == 2 || op == 19 || op == 20 || op == 21 || op == 22 || op == 23
def size (i : Ins) : Int := if check i == 0 then (if short i.op then 2 else if branch i.op && !i.wide then 2 else 4) else 0
end Go.Proofs.Ytennhpfhgbmnfaa.Th
