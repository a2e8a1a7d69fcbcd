/-
  Plain mathematics of a machine's state and of what one instruction does: what the calls of package cpu, and of the document's own, tell, as functions, and their laws. It names nothing of the translated program.
-/
import Derived.Test.YtennhpfhgbmnfaaWordM2
import Derived.Test.YtennhpfhgbmnfaaThumbM
namespace Go.Proofs.Ytennhpfhgbmnfaa.Cs
open Go.RowKit

structure St where
  r : Nat → Int
  pc : Int
  n : Bool
  z : Bool
  c : Bool
  v : Bool

/-- the cells of a state -/
def cells (s : St) : Array Value := #[.int .i64 (s.r 0), .int .i64 (s.r 1), .int .i64 (s.r 2), .int .i64 (s.r 3), .int .i64 (s.r 4), .int .i64 (s.r 5), .int .i64 (s.r 6), .int .i64 (s.r 7), .int .i64 (s.r 8), .int .i64 (s.r 9), .int .i64 (s.r 10), .int .i64 (s.r 11), .int .i64 (s.r 12), .int .i64 (s.r 13), .int .i64 (s.r 14), .int .i64 s.pc, .bool s.n, .bool s.z, .bool s.c, .bool s.v]
/-- the cells of its registers -/
def regs (s : St) : Array Value := #[.int .i64 (s.r 0), .int .i64 (s.r 1), .int .i64 (s.r 2), .int .i64 (s.r 3), .int .i64 (s.r 4), .int .i64 (s.r 5), .int .i64 (s.r 6), .int .i64 (s.r 7), .int .i64 (s.r 8), .int .i64 (s.r 9), .int .i64 (s.r 10), .int .i64 (s.r 11), .int .i64 (s.r 12), .int .i64 (s.r 13), .int .i64 (s.r 14)]
def none : St := ⟨fun _ => 0, 0, false, false, false, false⟩
def put (s : St) (k : Nat) (x : Int) : St := { s with r := fun j => if j = k then x else s.r j }
/-- the first k registers as words -/
def wk (s : St) (k : Nat) : St := { s with r := fun j => if j < k then Wd.wrap (s.r j) else s.r j }
def words (s : St) : St := { s with r := fun j => Wd.wrap (s.r j), pc := Wd.wrap s.pc }

/-- the cells of no state, written out -/
abbrev zero : Array Value := #[.int .i64 0, .int .i64 0, .int .i64 0, .int .i64 0, .int .i64 0, .int .i64 0, .int .i64 0, .int .i64 0, .int .i64 0, .int .i64 0, .int .i64 0, .int .i64 0, .int .i64 0, .int .i64 0, .int .i64 0, .int .i64 0, .bool false, .bool false, .bool false, .bool false]
theorem cells_size (s : St) : (cells s).size = 20 := rfl
theorem regs_size (s : St) : (regs s).size = 15 := rfl
theorem cells_one (s : St) : (cells s).all (·.oneCell') = true := by simp [cells, Value.oneCell']
theorem below_15 {P : Nat → Prop} (h0 : P 0) (h1 : P 1) (h2 : P 2) (h3 : P 3) (h4 : P 4) (h5 : P 5) (h6 : P 6) (h7 : P 7) (h8 : P 8) (h9 : P 9) (h10 : P 10) (h11 : P 11) (h12 : P 12) (h13 : P 13) (h14 : P 14) (k : Nat) (hk : k < 15) : P k := by
  match k, hk with
  | 0, _ => exact h0 | 1, _ => exact h1 | 2, _ => exact h2 | 3, _ => exact h3 | 4, _ => exact h4 | 5, _ => exact h5 | 6, _ => exact h6 | 7, _ => exact h7
  | 8, _ => exact h8 | 9, _ => exact h9 | 10, _ => exact h10 | 11, _ => exact h11 | 12, _ => exact h12 | 13, _ => exact h13 | 14, _ => exact h14
theorem cells_get (s : St) (k : Nat) (hk : k < 15) : (cells s)[k]? = some (.int .i64 (s.r k)) :=
  below_15 (P := fun k => (cells s)[k]? = some (.int .i64 (s.r k))) rfl rfl rfl rfl rfl rfl rfl rfl rfl rfl rfl rfl rfl rfl rfl k hk
theorem regs_get (s : St) (k : Nat) (hk : k < 15) : (regs s)[k]? = some (.int .i64 (s.r k)) :=
  below_15 (P := fun k => (regs s)[k]? = some (.int .i64 (s.r k))) rfl rfl rfl rfl rfl rfl rfl rfl rfl rfl rfl rfl rfl rfl rfl k hk
theorem regs_of (s : St) (k : Nat) (v : Value) (h : (regs s)[k]? = some v) : (cells s)[k]? = some v := by
  have hk : k < 15 := (Array.getElem?_eq_some_iff.1 h).1
  rw [cells_get s k hk, ← regs_get s k hk]; exact h
theorem cells_pc (s : St) : (cells s)[15]? = some (.int .i64 s.pc) := rfl
theorem cells_n (s : St) : (cells s)[16]? = some (.bool s.n) := rfl
theorem cells_z (s : St) : (cells s)[17]? = some (.bool s.z) := rfl
theorem cells_c (s : St) : (cells s)[18]? = some (.bool s.c) := rfl
theorem cells_v (s : St) : (cells s)[19]? = some (.bool s.v) := rfl
theorem cells_put (s : St) (k : Nat) (x : Int) (hk : k < 15) : (cells s).setIfInBounds k (.int .i64 x) = cells (put s k x) :=
  below_15 (P := fun k => (cells s).setIfInBounds k (.int .i64 x) = cells (put s k x)) rfl rfl rfl rfl rfl rfl rfl rfl rfl rfl rfl rfl rfl rfl rfl k hk
theorem cells_spc (s : St) (x : Int) : (cells s).setIfInBounds 15 (.int .i64 x) = cells { s with pc := x } := rfl
theorem cells_sn (s : St) (x : Bool) : (cells s).setIfInBounds 16 (.bool x) = cells { s with n := x } := rfl
theorem cells_sz (s : St) (x : Bool) : (cells s).setIfInBounds 17 (.bool x) = cells { s with z := x } := rfl
theorem cells_sc (s : St) (x : Bool) : (cells s).setIfInBounds 18 (.bool x) = cells { s with c := x } := rfl
theorem cells_sv (s : St) (x : Bool) : (cells s).setIfInBounds 19 (.bool x) = cells { s with v := x } := rfl
theorem wk_0 (s : St) : wk s 0 = s := by simp [wk]
theorem wk_put (s : St) (k : Nat) : put (wk s k) k (Wd.wrap (s.r k)) = wk s (k + 1) := by
  simp only [wk, put, St.mk.injEq, and_self, and_true]
  funext j
  by_cases h : j = k
  · subst h; simp
  · simp only [h, if_false]
    by_cases h2 : j < k
    · rw [if_pos h2, if_pos (by omega)]
    · rw [if_neg h2, if_neg (by omega)]
theorem wk_15 (s : St) : cells { wk s 15 with pc := Wd.wrap s.pc } = cells (words s) := rfl
theorem wk_at (s : St) (k : Nat) : (wk s k).r k = s.r k := by simp [wk]
theorem put_same (s : St) (k : Nat) : put s k (s.r k) = s := by
  cases s; simp only [put, St.mk.injEq, and_self, and_true]; funext j
  split
  · next h => rw [h]
  · rfl
theorem put_at (s : St) (k : Nat) (x : Int) : (put s k x).r k = x := by simp [put]

/-! ### what holds -/
def holds (s : St) (cond : Int) : Bool :=
  if cond == 0 then s.z else if cond == 1 then !s.z else if cond == 2 then s.c else if cond == 3 then !s.c else if cond == 4 then s.n else if cond == 5 then !s.n
  else if cond == 6 then s.v else if cond == 7 then !s.v else if cond == 8 then s.c && !s.z else if cond == 9 then !s.c || s.z else if cond == 10 then s.n == s.v
  else if cond == 11 then s.n != s.v else if cond == 12 then !s.z && s.n == s.v else if cond == 13 then s.z || s.n != s.v else false
def taken (s : St) (op cond : Int) : Bool := op == 24 || op == 25 && holds s cond
def sgn (a : Int) : Int := if 2147483648 ≤ a then a - 4294967296 else a
def cmp (s : St) (n m : Int) : St :=
  { s with n := Wd.bit (Wd.sub n m) 31 == 1, z := n == m, c := decide (m ≤ n), v := decide (sgn n - sgn m < -2147483648) || decide (2147483647 < sgn n - sgn m) }
def shifted (op m by_ : Int) : Int := if op == 5 then Wd.shl m by_ else if op == 6 then Wd.shr m by_ else if op == 7 then Wd.sar m by_ else Wd.ror m by_
def joined (op n m : Int) : Int :=
  if op == 10 then Wd.and n m else if op == 11 then Wd.and n (Wd.not m) else if op == 12 then Wd.or n m else if op == 13 then Wd.xor n m
  else if op == 14 then Wd.add n m else if op == 15 then Wd.sub n m else Wd.mul n m
/-- what Rd is made of -/
def value (op ra imm d n m l : Int) : Int :=
  if op == 3 then imm else if op == 4 then Wd.or (Wd.shl imm 16) (Wd.and d 65535)
  else if op == 5 || op == 6 || op == 7 || op == 8 then shifted op m imm
  else if op == 9 then Wd.not m
  else if op == 10 || op == 11 || op == 12 || op == 13 || op == 14 || op == 15 || op == 16 then joined op n m
  else if op == 17 then Wd.mul n m
  else if op == 18 then Wd.select (Wd.shl (2 ^ ra.toNat - 1) imm) (Wd.shl n imm) d
  else if op == 19 then Wd.wrap l else if op == 21 then Wd.wrap l % 256 else d
/-- the state that an instruction makes, but for the PC -/
def made (s : St) (i : Th.Ins) (l : Int) : St :=
  if i.op == 23 then cmp s (s.r i.rn.toNat) (s.r i.rm.toNat)
  else
    let t := put s i.rd.toNat (value i.op i.ra i.imm (s.r i.rd.toNat) (s.r i.rn.toNat) (s.r i.rm.toNat) l)
    if i.op == 17 then put t i.ra.toNat (Wd.high (s.r i.rn.toNat) (s.r i.rm.toNat)) else t
def stepS (s : St) (i : Th.Ins) (l : Int) : St :=
  if Th.size i == 0 || i.op == 2 then words s
  else if taken s i.op i.cond then { words s with pc := Wd.add (Wd.wrap s.pc) (4 + i.imm) }
  else { made (words s) i l with pc := Wd.add (Wd.wrap s.pc) (Th.size i) }
def stepB (i : Th.Ins) : Bool := !(Th.size i == 0 || i.op == 2)
theorem sgn_bd (a : Int) (h0 : 0 ≤ a) (h1 : a < 4294967296) : -2147483648 ≤ sgn a ∧ sgn a ≤ 2147483647 := by unfold sgn; split <;> omega
theorem sgn_bit (a : Int) (h0 : 0 ≤ a) (h1 : a < 4294967296) : a - Wd.bit a 31 * 4294967296 = sgn a := by
  rw [Wd.bit31]
  have e : Wd.wrap a = a := by unfold Wd.wrap; omega
  rw [e]
  unfold sgn
  split <;> omega
theorem taken_words (s : St) (op cond : Int) : taken (words s) op cond = taken s op cond := rfl

/-! ### what is read or written -/
structure Acc where
  addr : Int
  size : Int
  value : Int
  write : Bool
def access (s : St) (i : Th.Ins) : Acc :=
  if Th.check i != 0 then ⟨0, 0, 0, false⟩
  else if i.op == 19 then ⟨Wd.wrap (s.r i.rn.toNat), 4, 0, false⟩
  else if i.op == 21 then ⟨Wd.wrap (s.r i.rn.toNat), 1, 0, false⟩
  else if i.op == 20 then ⟨Wd.wrap (s.r i.rn.toNat), 4, Wd.wrap (s.r i.rd.toNat), true⟩
  else if i.op == 22 then ⟨Wd.wrap (s.r i.rn.toNat), 1, Wd.wrap (s.r i.rd.toNat) % 256, true⟩
  else ⟨0, 0, 0, false⟩
def mem (op : Int) : Bool := op == 19 || op == 20 || op == 21 || op == 22
def accessB (i : Th.Ins) : Bool := Th.check i == 0 && mem i.op
def cycles (s : St) (i : Th.Ins) : Int :=
  if Th.check i != 0 then 0 else if mem i.op then 2 else if i.op == 17 then 4 else if taken s i.op i.cond then 3 else 1
end Go.Proofs.Ytennhpfhgbmnfaa.Cs
