/-
Plain mathematics of a machine's state and of what one instruction does: what the calls of package cpu, and of the document's own, tell, as functions, and their laws. It names nothing of the translated program.
Plain mathematics of layer 5: no two regions meet, a bit turned leads from none that may be written to another, and words are bytes.
What each call of package thumb returns: contracts for the walks. At most new memory is made.
Plain mathematics of instructions: fields that are put into bits, and bytes. It names nothing of the translated program.
-/
import Derived.Test.YthciobjklhkkcaaGreatP01a
import Derived.WalkKit
import Derived.ProofKit
import Derived.LoopTactic
import Derived.Lib.Hide
import Derived.Handy
import Derived.Below
import Derived.Deep.RegionHeld3
import Derived.Deep.QuietTactic
import Derived.BigQuiet
import Derived.RegionTactic
import Derived.Test.YthciobjklhkkcaaGreatRows
section
namespace Go.Proofs.YthciobjklhkkcaaGreat.Cs
open Go.RowKit

structure St where
 r : Nat → Int
 pc : Int
 n : Bool
 z : Bool
 c : Bool
 v : Bool

/-- the cells of a state -/
def cells (s : St) : Array Value := #[.int .i64 (s.r 0), .int .i64 (s.r 1), .int .i64 (s.r 2), .int .i64 (s.r 3), .int .i64 (s.r 4), .int .i64 (s.r 5), .int .i64 (s.r 6), .int .i64 (s.r 7), .int .i64 (s.r 8), .int .i64 (s.r 9), .int .i64 (s.r 10), .int .i64 (s.r 11), .int .i64 (s.r 12), .int .i64 (s.r 13), .int .i64 (s.r 14), .int .i64 s.pc, .bool s.n, .bool s.z, .bool s.c, .bool s.v]
/-- the cells of its registers -/
def regs (s : St) : Array Value := #[.int .i64 (s.r 0), .int .i64 (s.r 1), .int .i64 (s.r 2), .int .i64 (s.r 3), .int .i64 (s.r 4), .int .i64 (s.r 5), .int .i64 (s.r 6), .int .i64 (s.r 7), .int .i64 (s.r 8), .int .i64 (s.r 9), .int .i64 (s.r 10), .int .i64 (s.r 11), .int .i64 (s.r 12), .int .i64 (s.r 13), .int .i64 (s.r 14)]
def none : St := ⟨fun _ => 0, 0, false, false, false, false⟩
def put (s : St) (k : Nat) (x : Int) : St := { s with r := fun j => if j = k then x else s.r j }
/-- the first k registers as words -/
def wk (s : St) (k : Nat) : St := { s with r := fun j => if j < k then Wd.wrap (s.r j) else s.r j }
def words (s : St) : St := { s with r := fun j => Wd.wrap (s.r j), pc := Wd.wrap s.pc }

/-- the cells of no state, written out -/
abbrev zero : Array Value := #[.int .i64 0, .int .i64 0, .int .i64 0, .int .i64 0, .int .i64 0, .int .i64 0, .int .i64 0, .int .i64 0, .int .i64 0, .int .i64 0, .int .i64 0, .int .i64 0, .int .i64 0, .int .i64 0, .int .i64 0, .int .i64 0, .bool false, .bool false, .bool false, .bool false]
theorem cells_one (s : St) : (cells s).all (·.oneCell') = true := by simp [cells, Value.oneCell']
theorem below_15 {P : Nat → Prop} (h0 : P 0) (h1 : P 1) (h2 : P 2) (h3 : P 3) (h4 : P 4) (h5 : P 5) (h6 : P 6) (h7 : P 7) (h8 : P 8) (h9 : P 9) (h10 : P 10) (h11 : P 11) (h12 : P 12) (h13 : P 13) (h14 : P 14) (k : Nat) (hk : k < 15) : P k := by
 match k, hk with
 | 0, _ => exact h0 | 1, _ => exact h1 | 2, _ => exact h2 | 3, _ => exact h3 | 4, _ => exact h4 | 5, _ => exact h5 | 6, _ => exact h6 | 7, _ => exact h7
 | 8, _ => exact h8 | 9, _ => exact h9 | 10, _ => exact h10 | 11, _ => exact h11 | 12, _ => exact h12 | 13, _ => exact h13 | 14, _ => exact h14
theorem cells_get (s : St) (k : Nat) (hk : k < 15) : (cells s)[k]? = some (.int .i64 (s.r k)) :=
 below_15 (P := fun k => (cells s)[k]? = some (.int .i64 (s.r k))) rfl rfl rfl rfl rfl rfl rfl rfl rfl rfl rfl rfl rfl rfl rfl k hk
theorem regs_get (s : St) (k : Nat) (hk : k < 15) : (regs s)[k]? = some (.int .i64 (s.r k)) :=
 below_15 (P := fun k => (regs s)[k]? = some (.int .i64 (s.r k))) rfl rfl rfl rfl rfl rfl rfl rfl rfl rfl rfl rfl rfl rfl rfl k hk
theorem regs_of (s : St) (k : Nat) (v : Value) (h : (regs s)[k]? = some v) : (cells s)[k]? = some v := by
 have hk : k < 15 := (Array.getElem?_eq_some_iff.1 h).1
 rw [cells_get s k hk, ← regs_get s k hk]; exact h
theorem cells_pc (s : St) : (cells s)[15]? = some (.int .i64 s.pc) := rfl
theorem cells_n (s : St) : (cells s)[16]? = some (.bool s.n) := rfl
theorem cells_z (s : St) : (cells s)[17]? = some (.bool s.z) := rfl
theorem cells_c (s : St) : (cells s)[18]? = some (.bool s.c) := rfl
theorem cells_v (s : St) : (cells s)[19]? = some (.bool s.v) := rfl
theorem cells_put (s : St) (k : Nat) (x : Int) (hk : k < 15) : (cells s).setIfInBounds k (.int .i64 x) = cells (put s k x) :=
 below_15 (P := fun k => (cells s).setIfInBounds k (.int .i64 x) = cells (put s k x)) rfl rfl rfl rfl rfl rfl rfl rfl rfl rfl rfl rfl rfl rfl rfl k hk
theorem cells_spc (s : St) (x : Int) : (cells s).setIfInBounds 15 (.int .i64 x) = cells { s with pc := x } := rfl
theorem cells_sn (s : St) (x : Bool) : (cells s).setIfInBounds 16 (.bool x) = cells { s with n := x } := rfl
theorem cells_sz (s : St) (x : Bool) : (cells s).setIfInBounds 17 (.bool x) = cells { s with z := x } := rfl
theorem cells_sc (s : St) (x : Bool) : (cells s).setIfInBounds 18 (.bool x) = cells { s with c := x } := rfl
theorem cells_sv (s : St) (x : Bool) : (cells s).setIfInBounds 19 (.bool x) = cells { s with v := x } := rfl
theorem wk_0 (s : St) : wk s 0 = s := by simp [wk]
theorem wk_put (s : St) (k : Nat) : put (wk s k) k (Wd.wrap (s.r k)) = wk s (k + 1) := by
 simp only [wk, put, St.mk.injEq, and_self, and_true]
 funext j
 by_cases h : j = k
 ·subst h; simp
 ·simp only [h, if_false]
  by_cases h2 : j < k
  ·rw [if_pos h2, if_pos (by omega)]
  ·rw [if_neg h2, if_neg (by omega)]
theorem wk_15 (s : St) : cells { wk s 15 with pc := Wd.wrap s.pc } = cells (words s) := rfl
theorem wk_at (s : St) (k : Nat) : (wk s k).r k = s.r k := by simp [wk]
theorem put_same (s : St) (k : Nat) : put s k (s.r k) = s := by
 cases s; simp only [put, St.mk.injEq, and_self, and_true]; funext j
 split
 ·next h => rw [h]
 ·rfl
def holds (s : St) (cond : Int) : Bool :=
 if cond == 0 then s.z else if cond == 1 then !s.z else if cond == 2 then s.c else if cond == 3 then !s.c else if cond == 4 then s.n else if cond == 5 then !s.n
 else if cond == 6 then s.v else if cond == 7 then !s.v else if cond == 8 then s.c && !s.z else if cond == 9 then !s.c || s.z else if cond == 10 then s.n == s.v
 else if cond == 11 then s.n != s.v else if cond == 12 then !s.z && s.n == s.v else if cond == 13 then s.z || s.n != s.v else false
def taken (s : St) (op cond : Int) : Bool := op == 24 || op == 25 && holds s cond
def sgn (a : Int) : Int := if 2147483648 ≤ a then a - 4294967296 else a
def cmp (s : St) (n m : Int) : St :=
 { s with n := Wd.bit (Wd.sub n m) 31 == 1, z := n == m, c := decide (m ≤ n), v := decide (sgn n - sgn m < -2147483648) || decide (2147483647 < sgn n - sgn m) }
def shifted (op m by_ : Int) : Int := if op == 5 then Wd.shl m by_ else if op == 6 then Wd.shr m by_ else if op == 7 then Wd.sar m by_ else Wd.ror m by_
def joined (op n m : Int) : Int :=
 if op == 10 then Wd.and n m else if op == 11 then Wd.and n (Wd.not m) else if op == 12 then Wd.or n m else if op == 13 then Wd.xor n m
 else if op == 14 then Wd.add n m else if op == 15 then Wd.sub n m else Wd.mul n m
/-- what Rd is made of -/
def value (op ra imm d n m l : Int) : Int :=
 if op == 3 then imm else if op == 4 then Wd.or (Wd.shl imm 16) (Wd.and d 65535)
 else if op == 5 || op == 6 || op == 7 || op == 8 then shifted op m imm
 else if op == 9 then Wd.not m
 else if op == 10 || op == 11 || op == 12 || op == 13 || op == 14 || op == 15 || op == 16 then joined op n m
 else if op == 17 then Wd.mul n m
 else if op == 18 then Wd.select (Wd.shl (2 ^ ra.toNat - 1) imm) (Wd.shl n imm) d
 else if op == 19 then Wd.wrap l else if op == 21 then Wd.wrap l % 256 else d
/-- the state that an instruction makes, but for the PC -/
def made (s : St) (i : Th.Ins) (l : Int) : St :=
 if i.op == 23 then cmp s (s.r i.rn.toNat) (s.r i.rm.toNat)
 else
  let t := put s i.rd.toNat (value i.op i.ra i.imm (s.r i.rd.toNat) (s.r i.rn.toNat) (s.r i.rm.toNat) l)
  if i.op == 17 then put t i.ra.toNat (Wd.high (s.r i.rn.toNat) (s.r i.rm.toNat)) else t
def stepS (s : St) (i : Th.Ins) (l : Int) : St :=
 if Th.size i == 0 || i.op == 2 then words s
 else if taken s i.op i.cond then { words s with pc := Wd.add (Wd.wrap s.pc) (4 + i.imm) }
 else { made (words s) i l with pc := Wd.add (Wd.wrap s.pc) (Th.size i) }
def stepB (i : Th.Ins) : Bool := !(Th.size i == 0 || i.op == 2)
theorem sgn_bd (a : Int) (h0 : 0 ≤ a) (h1 : a < 4294967296) : -2147483648 ≤ sgn a ∧ sgn a ≤ 2147483647 := by unfold sgn; split <;> omega
theorem sgn_bit (a : Int) (h0 : 0 ≤ a) (h1 : a < 4294967296) : a - Wd.bit a 31 * 4294967296 = sgn a := by
 rw [Wd.bit31]
 have e : Wd.wrap a = a := by unfold Wd.wrap; omega
 rw [e]
 unfold sgn
 split <;> omega
theorem taken_words (s : St) (op cond : Int) : taken (words s) op cond = taken s op cond := rfl

structure Acc where
 addr : Int
 size : Int
 value : Int
 write : Bool
def access (s : St) (i : Th.Ins) : Acc :=
 if Th.check i != 0 then ⟨0, 0, 0, false⟩
 else if i.op == 19 then ⟨Wd.wrap (s.r i.rn.toNat), 4, 0, false⟩
 else if i.op == 21 then ⟨Wd.wrap (s.r i.rn.toNat), 1, 0, false⟩
 else if i.op == 20 then ⟨Wd.wrap (s.r i.rn.toNat), 4, Wd.wrap (s.r i.rd.toNat), true⟩
 else if i.op == 22 then ⟨Wd.wrap (s.r i.rn.toNat), 1, Wd.wrap (s.r i.rd.toNat) % 256, true⟩
 else ⟨0, 0, 0, false⟩
def mem (op : Int) : Bool := op == 19 || op == 20 || op == 21 || op == 22
def accessB (i : Th.Ins) : Bool := Th.check i == 0 && mem i.op
def cycles (s : St) (i : Th.Ins) : Int :=
 if Th.check i != 0 then 0 else if mem i.op then 2 else if i.op == 17 then 4 else if taken s i.op i.cond then 3 else 1
end Go.Proofs.YthciobjklhkkcaaGreat.Cs
end
section
namespace Go.Proofs.YthciobjklhkkcaaGreat
open Go.RowKit
set_option linter.unusedVariables false

theorem Mm.has_iff {g : Mm.Rg} {a n : Int} : Mm.has g a n = true ↔ (g.base ≤ a ∧ n ≤ g.len ∧ a - g.base ≤ g.len - n) := by
 unfold Mm.has; exact decide_eq_true_iff
/-- a place that is told is the first one that has the bytes -/
theorem Mm.look_ok {a n : Int} {sw : Bool} : ∀ {L : List Mm.Rg} {k X E : Int}, Mm.look a n sw L k = (X, E) → E = 0 → ∃ j, ∃ hj : j < L.length, X = k + j ∧ Mm.has L[j] a n = true ∧ (sw = true → L[j].write = true) := by
 intro L
 induction L with
 | nil => intro k X E h hE; unfold Mm.look at h; injection h with h1 h2; omega
 | cons g L ih =>
  intro k X E h hE
  unfold Mm.look at h
  cases hh : Mm.has g a n with
  | true =>
   rw [hh, if_pos rfl] at h
   cases hs : (sw && !g.write) with
   | true => rw [hs, if_pos rfl] at h; injection h with h1 h2; omega
   | false =>
    rw [hs, if_neg (by decide)] at h
    injection h with h1 h2
    refine ⟨0, by simp, by simp; exact h1.symm, by simpa using hh, ?_⟩
    intro hsw
    rw [hsw] at hs
    simpa using hs
  | false =>
   rw [hh, if_neg (by decide)] at h
   obtain ⟨j, hj, hX, h1, h2⟩ := ih h hE
   exact ⟨j + 1, by simpa using hj, by omega, by simpa using h1, by simpa using h2⟩
/-- sizes that may be -/
def Mm.okay (i o r f : Int) : Prop := 0 ≤ i ∧ i ≤ 65536 ∧ 0 ≤ o ∧ o ≤ 65536 ∧ 4 ≤ r ∧ r ≤ 65536 ∧ 0 ≤ f ∧ f ≤ 262144 ∧ i % 4 = 0 ∧ o % 4 = 0 ∧ r % 4 = 0
theorem Mm.okay_of {i o r f : Int} (h : Mm.err i o r f = 0) : Mm.okay i o r f := by
 unfold Mm.err at h
 split at h
 ·rename_i h1
  split at h
  ·rename_i h2
   simp only [Mm.whole, Bool.and_eq_true, decide_eq_true_eq, beq_iff_eq] at h1
   unfold Mm.okay
   omega
  ·omega
 ·omega
/-- where each of the seven begins, and how long it is -/
theorem Mm.seven_cases {i o r f : Int} (h : Mm.okay i o r f) (j : Nat) (hj : j < (Mm.seven i o r f).length) :
  (j = 0 ∧ (Mm.seven i o r f)[j].base = 0 ∧ (Mm.seven i o r f)[j].len = f ∧ (Mm.seven i o r f)[j].write = false) ∨
  (1 ≤ j ∧ (Mm.seven i o r f)[j].base = 536870912 + 65536 * 2 ^ (j - 1) ∧ 0 ≤ (Mm.seven i o r f)[j].len ∧ (Mm.seven i o r f)[j].len ≤ 65536 ∧ (Mm.seven i o r f)[j].len % 4 = 0 ∧ (Mm.seven i o r f)[j].write = true) := by
 unfold Mm.okay at h
 have h7 : j < 7 := hj
 rcases (by omega : j = 0 ∨ j = 1 ∨ j = 2 ∨ j = 3 ∨ j = 4 ∨ j = 5 ∨ j = 6) with rfl | rfl | rfl | rfl | rfl | rfl | rfl <;> simp [Mm.seven] <;> omega
/-- the place of an address that is of one of the six, by its upper bits -/
theorem Mm.upper {i o r f a : Int} (h : Mm.okay i o r f) {j : Nat} (hj : j < (Mm.seven i o r f).length) (h1 : 1 ≤ j) (ha : (Mm.seven i o r f)[j].base ≤ a) (hb : a < (Mm.seven i o r f)[j].base + (Mm.seven i o r f)[j].len) : a / 65536 = 8192 + 2 ^ (j - 1) := by
 rcases Mm.seven_cases h j hj with ⟨h0, _⟩ | ⟨_, hbase, hl0, hl1, _, _⟩
 ·omega
 ·rw [hbase] at ha hb
  generalize (2 : Int) ^ (j - 1) = P at *
  omega
theorem Mm.pow_inj {j k : Nat} (hj : j < 7) (hk : k < 7) (h1 : 1 ≤ j) (h2 : 1 ≤ k) (h : (2 : Int) ^ (j - 1) = 2 ^ (k - 1)) : j = k := by
 rcases (by omega : j = 1 ∨ j = 2 ∨ j = 3 ∨ j = 4 ∨ j = 5 ∨ j = 6) with rfl | rfl | rfl | rfl | rfl | rfl <;> rcases (by omega : k = 1 ∨ k = 2 ∨ k = 3 ∨ k = 4 ∨ k = 5 ∨ k = 6) with rfl | rfl | rfl | rfl | rfl | rfl <;> first | rfl | (exfalso; revert h; decide)
theorem Mm.pow_pos (m : Nat) : (1 : Int) ≤ 2 ^ m := by
 induction m with
 | zero => decide
 | succ m ih => rw [Int.pow_succ]; omega
/-- no two regions meet -/
theorem Mm.apart {i o r f a : Int} (h : Mm.okay i o r f) {j k : Nat} (hj : j < (Mm.seven i o r f).length) (hk : k < (Mm.seven i o r f).length)
  (ja : (Mm.seven i o r f)[j].base ≤ a) (jb : a < (Mm.seven i o r f)[j].base + (Mm.seven i o r f)[j].len) (ka : (Mm.seven i o r f)[k].base ≤ a) (kb : a < (Mm.seven i o r f)[k].base + (Mm.seven i o r f)[k].len) : j = k := by
 have hf : f ≤ 262144 := by unfold Mm.okay at h; omega
 rcases Mm.seven_cases h j hj with ⟨h0, h1, h2, _⟩ | ⟨h0, h1, h2, h3, _⟩
 ·rcases Mm.seven_cases h k hk with ⟨g0, g1, g2, _⟩ | ⟨g0, g1, g2, g3, _⟩
  ·omega
  ·have := Mm.pow_pos (k - 1)
   rw [h1, h2] at jb
   rw [g1] at ka
   omega
 ·rcases Mm.seven_cases h k hk with ⟨g0, g1, g2, _⟩ | ⟨g0, g1, g2, g3, _⟩
  ·have := Mm.pow_pos (j - 1)
   rw [g1, g2] at kb
   rw [h1] at ja
   omega
  ·have e1 := Mm.upper h hj h0 ja jb
   have e2 := Mm.upper h hk g0 ka kb
   exact Mm.pow_inj hj hk h0 g0 (by omega)
theorem Mm.has_one {g : Mm.Rg} {a : Int} (h : Mm.has g a 1 = true) : g.base ≤ a ∧ a < g.base + g.len := by
 have := Mm.has_iff.1 h; omega
/-- bytes that are of regions are of one: their word is its -/
theorem Mm.word {i o r f a : Int} (h : Mm.okay i o r f) (h0 : a % 4 = 0) {j k : Nat} (hj : j < (Mm.seven i o r f).length) (hk : k < (Mm.seven i o r f).length)
  (jh : Mm.has (Mm.seven i o r f)[j] a 1 = true) (kh : Mm.has (Mm.seven i o r f)[k] (a + 3) 1 = true) : j = k ∧ Mm.has (Mm.seven i o r f)[j] a 4 = true := by
 have hjk : j = k := by
  have hf : f ≤ 262144 := by unfold Mm.okay at h; omega
  have ja := Mm.has_one jh
  have ka := Mm.has_one kh
  rcases Mm.seven_cases h j hj with ⟨h0, h1, h2, _⟩ | ⟨h0, h1, h2, h3, _⟩
  ·rcases Mm.seven_cases h k hk with ⟨g0, g1, g2, _⟩ | ⟨g0, g1, g2, g3, _⟩
   ·omega
   ·have := Mm.pow_pos (k - 1)
    rw [h1, h2] at ja
    rw [g1] at ka
    omega
  ·rcases Mm.seven_cases h k hk with ⟨g0, g1, g2, _⟩ | ⟨g0, g1, g2, g3, _⟩
   ·have := Mm.pow_pos (j - 1)
    rw [g1, g2] at ka
    rw [h1] at ja
    omega
   ·have e1 := Mm.upper h hj h0 ja.1 ja.2
    have e2 := Mm.upper h hk g0 ka.1 ka.2
    have : (a + 3) / 65536 = a / 65536 := by omega
    exact Mm.pow_inj hj hk h0 g0 (by omega)
 subst hjk
 have ja := Mm.has_one jh
 have ka := Mm.has_one kh
 exact ⟨rfl, Mm.has_iff.2 (by omega)⟩
end Go.Proofs.YthciobjklhkkcaaGreat
end
section
namespace Go.Proofs.YthciobjklhkkcaaGreat
open Go.ChangeShapes Go.WideShapes Go.ChangeAt Go.RowKit
set_option maxHeartbeats 4000000

theorem bcell {W w1 : World} (hb : Below W.heap.size W w1) : (∀ b o, b < W.heap.size → w1.cell? ⟨b, o, none⟩ = W.cell? ⟨b, o, none⟩) ∧ (∀ b o, b < W.heap.size → w1.frozen? ⟨b, o, none⟩ = W.frozen? ⟨b, o, none⟩) :=
 ⟨fun b o h => hb.cell (p := ⟨b, o, none⟩) h, fun b o h => hb.frozen (p := ⟨b, o, none⟩) h⟩
/-- an operation whose guard is met, in a long region: without reckoning the region anew -/
theorem wpList_take {P : Program} {ops : Array Oper} {Q : Exit → Act → World → Prop} {a : Act} {w : World} {rest : List Oper} {o : Oper}
  (hw : Region.wanted o (yielded ops a.tmps) = true) (h : ∀ K : Act → World → Prop, (∀ a w, wpList P ops Q rest a w → K a w) → o.wp P a w K Q) : wpList P ops Q (o :: rest) a w :=
 wpList_step fun K hK => by simp only [hw, if_true]; exact h K hK


theorem reach_any (op : Int) (wide : Bool) (w : World) :
  Calls Tryz.prog 172 #[.int .i64 op, .bool wide] w fun e w' => e = .returned (.tuple #[.int .i64 (Th.reachLo op wide), .int .i64 (Th.reachHi op wide)]) ∧ w = w' := by
 go_enter Tryz.func172, Tryz.ntmps172
 go_wp2
 all_goals (go_ret2; exact ⟨ret_two (by simp [Th.reachLo, *]) (by simp [Th.reachHi, *]), rfl⟩)

theorem branches_any (op : Int) (w : World) :
  Calls Tryz.prog 147 #[.int .i64 op] w fun e w' => e = .returned (.bool (Th.branch op)) ∧ w = w' := by
 go_enter Tryz.func147, Tryz.ntmps147
 go_wp2
 all_goals (go_ret; exact ⟨ret_bool (by simp [Th.branch, *]), rfl⟩)

theorem least_any (op rd rn rm ra imm cond : Int) (wide : Bool) (w : World) :
  Calls Tryz.prog 159 #[.agg #[.int .i64 op, .int .i64 rd, .int .i64 rn, .int .i64 rm, .int .i64 ra, .int .i64 imm, .int .i64 cond, .bool wide]] w fun e w' =>
   e = .returned (.agg #[.int .i64 (Th.least op imm).op, .int .i64 (Th.least op imm).rd, .int .i64 (Th.least op imm).rn, .int .i64 (Th.least op imm).rm, .int .i64 (Th.least op imm).ra, .int .i64 (Th.least op imm).imm, .int .i64 (Th.least op imm).cond, .bool (Th.least op imm).wide]) ∧ Below w.heap.size w w' := by
 go_enter Tryz.func159, Tryz.ntmps159
 go_wp2
 all_goals
  go_returns
  refine ⟨?_, by go_grown⟩
  simp [Th.least, Th.none0, *]

theorem greatest_any (op rd rn rm ra imm cond : Int) (wide : Bool) (w : World) :
  Calls Tryz.prog 157 #[.agg #[.int .i64 op, .int .i64 rd, .int .i64 rn, .int .i64 rm, .int .i64 ra, .int .i64 imm, .int .i64 cond, .bool wide]] w fun e w' =>
   e = .returned (.tuple #[.agg #[.int .i64 (Th.most op imm).op, .int .i64 (Th.most op imm).rd, .int .i64 (Th.most op imm).rn, .int .i64 (Th.most op imm).rm, .int .i64 (Th.most op imm).ra, .int .i64 (Th.most op imm).imm, .int .i64 (Th.most op imm).cond, .bool (Th.most op imm).wide], .bool (Th.known op rd ra)]) ∧ Below w.heap.size w w' := by
 by_cases h17 : op = 17
 ·subst h17
  go_enter Tryz.func157, Tryz.ntmps157
  go_wp2
  go_region
  go_wp2
  go_returns
  refine ⟨?_, by go_grown⟩
  simp [Th.most, Th.known, Th.none0]
 ·have h17' : (op == 17) = false := by simpa using h17
  go_enter Tryz.func157, Tryz.ntmps157
  go_wp2
  all_goals
   go_returns
   refine ⟨?_, by go_grown⟩
   simp [Th.most, Th.known, Th.none0, *]

end Go.Proofs.YthciobjklhkkcaaGreat
end
section
namespace Go.Proofs.YthciobjklhkkcaaGreat.Th
open Go.RowKit

/-- bits of a number that stand together: so many, from one of the number's bits on, to one of the instruction's bits on -/
structure Fld where
 num : Int
 cnt : Nat
 frm : Nat
 to : Nat
def fval (f : Fld) : Nat := f.num.toNat / 2 ^ f.frm % 2 ^ f.cnt
def orStep (n : Nat) (f : Fld) : Nat := n ||| fval f * 2 ^ f.to
def put (n : Nat) (L : List Fld) : Nat := L.foldl orStep n
/-- bytes of 16 bits, and of 32 -/
def str2 (n : Nat) : ByteArray := strOfNums [(n : Int) % 256, (n : Int) / 256]
def str4 (n : Nat) : ByteArray := strOfNums [(n : Int) / 65536 % 256, (n : Int) / 16777216, (n : Int) % 256, (n : Int) / 256 % 256]
end Go.Proofs.YthciobjklhkkcaaGreat.Th
end
