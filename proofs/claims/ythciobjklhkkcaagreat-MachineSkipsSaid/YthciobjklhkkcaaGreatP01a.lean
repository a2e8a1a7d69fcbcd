/-
Plain mathematics of numbers of 32 bits: what the calls of package word tell, as functions on integers, and their laws. It names nothing of the translated program.
Plain mathematics of instructions: what the calls of package thumb, and of the document's own thumb, tell, as functions on integers, and their laws. It names nothing of the translated program.
What several texts state alike.
An instruction that lies in eight cells of a block, and what keeps it there.
Plain mathematics of layer 5: sizes, regions and accesses. It names nothing of the translated program.
-/
import Derived.WalkKit
import Derived.Laws.Bits64
import Derived.ProofKit
import Derived.Below
import Derived.Laws.BytesArg
import Derived.OwnWalk
import Derived.LoopN
import Derived.Deep.Draws
import Derived.Test.YthciobjklhkkcaaGreatRows
section
namespace Go.Proofs.YthciobjklhkkcaaGreat.Wd
open Go.RowKit

def wrap (n : Int) : Int := n % 4294967296
def add (a b : Int) : Int := (a + b) % 4294967296
def sub (a b : Int) : Int := (a - b) % 4294967296
def mul (a b : Int) : Int := (a * b) % 4294967296
def high (a b : Int) : Int := (wrap a * wrap b) / 4294967296
def cnt (n : Int) : Nat := (n % 32).toNat
def not (a : Int) : Int := 4294967295 - wrap a
def and (a b : Int) : Int := (((wrap a).toNat &&& (wrap b).toNat : Nat) : Int)
def or (a b : Int) : Int := (((wrap a).toNat ||| (wrap b).toNat : Nat) : Int)
def xor (a b : Int) : Int := (((wrap a).toNat ^^^ (wrap b).toNat : Nat) : Int)
def select (m a b : Int) : Int := or (and m a) (and (not m) b)
def shl (a n : Int) : Int := (wrap a * 2 ^ cnt n) % 4294967296
def shr (a n : Int) : Int := wrap a / 2 ^ cnt n
def bit (a i : Int) : Int := shr a i % 2
def flip (a i : Int) : Int := xor a (2 ^ cnt i)
def mask (b : Bool) : Int := if b then 4294967295 else 0
def same (a b : Int) : Int := mask (wrap a == wrap b)
/-- turned, and shifted with the sign, by k bits, in natural numbers -/
def rorN (A k : Nat) : Nat := A / 2 ^ k + A % 2 ^ k * 2 ^ (32 - k)
def sarN (A k : Nat) : Nat := A / 2 ^ k + A / 2 ^ 31 * (2 ^ 32 - 2 ^ (32 - k))
def ror (a n : Int) : Int := ((rorN (wrap a).toNat (cnt n) : Nat) : Int)
def sar (a n : Int) : Int := ((sarN (wrap a).toNat (cnt n) : Nat) : Int)

theorem wrap_bd (n : Int) : 0 ≤ wrap n ∧ wrap n < 4294967296 := by unfold wrap; omega

theorem ofInt_toNat (n : Int) : (BitVec.ofInt 64 n).toNat = (n % 18446744073709551616).toNat := by
 rw [BitVec.toNat_ofInt]; rfl
theorem i64_small (n : Nat) (h : n < 9223372036854775808) : IntKind.i64.wrap (n : Int) = n := by
 rw [IntKind.wrap_i64]; omega
theorem and_ones (n : Int) : bits .and .i64 n 4294967295 = wrap n := by
 show IntKind.i64.wrap ((BitVec.ofInt 64 n &&& BitVec.ofInt 64 4294967295).toNat : Int) = _
 rw [BitVec.toNat_and, ofInt_toNat, ofInt_toNat]
 have e : ((4294967295 : Int) % 18446744073709551616).toNat = 2 ^ 32 - 1 := by decide
 rw [e, Nat.and_two_pow_sub_one_eq_mod, i64_small _ (by omega)]
 unfold wrap; omega
theorem and_31 (n : Int) : bits .and .i64 n 31 = (cnt n : Int) := by
 show IntKind.i64.wrap ((BitVec.ofInt 64 n &&& BitVec.ofInt 64 31).toNat : Int) = _
 rw [BitVec.toNat_and, ofInt_toNat, ofInt_toNat]
 have e : ((31 : Int) % 18446744073709551616).toNat = 2 ^ 5 - 1 := by decide
 rw [e, Nat.and_two_pow_sub_one_eq_mod, i64_small _ (by omega)]
 unfold cnt; omega
theorem cnt_lt (n : Int) : (cnt n : Int) < 32 := by unfold cnt; omega
theorem shr_bd (a n : Int) : 0 ≤ shr a n ∧ shr a n < 4294967296 := by
 have h := wrap_bd a
 unfold shr
 refine ⟨Int.ediv_nonneg h.1 (Int.pow_nonneg (by decide)), ?_⟩
 have := Int.ediv_le_self (2 ^ cnt n) h.1
 omega
theorem add_eq (a b : Int) : wrap (wrap a + wrap b) = add a b := by unfold wrap add; omega
theorem sub_eq (a b : Int) : wrap (wrap a - wrap b) = sub a b := by unfold wrap sub; omega
theorem prod_bd (a b : Int) : 0 ≤ wrap a * wrap b ∧ wrap a * wrap b < 18446744073709551616 := by
 have ha := wrap_bd a
 have hb := wrap_bd b
 refine ⟨Int.mul_nonneg ha.1 hb.1, ?_⟩
 have := Int.mul_le_mul (show wrap a ≤ 4294967295 by omega) (show wrap b ≤ 4294967295 by omega) hb.1 (by decide)
 omega
theorem u64_wrap (n : Int) (h0 : 0 ≤ n) (h1 : n < 18446744073709551616) : IntKind.u64.wrap n = n := by rw [IntKind.wrap_u64]; omega
theorem i64_bits (op : BinOp) (a b : Int) : bits op .i64 a b = IntKind.i64.wrap ((match op with | .and => BitVec.ofInt 64 a &&& BitVec.ofInt 64 b | .or => BitVec.ofInt 64 a ||| BitVec.ofInt 64 b | .xor => BitVec.ofInt 64 a ^^^ BitVec.ofInt 64 b | _ => BitVec.ofInt 64 a &&& ~~~(BitVec.ofInt 64 b)).toNat : Int) := rfl
theorem wrap_i64 (n : Int) : wrap (IntKind.i64.wrap n) = wrap n := by rw [IntKind.wrap_i64]; unfold wrap; omega
theorem low (n : Int) : (wrap n).toNat = (n % 18446744073709551616).toNat % 2 ^ 32 := by unfold wrap; omega
theorem and_eq (a b : Int) : wrap (bits .and .i64 a b) = and a b := by
 rw [i64_bits, wrap_i64]
 show wrap ((BitVec.ofInt 64 a &&& BitVec.ofInt 64 b).toNat : Int) = _
 rw [BitVec.toNat_and, ofInt_toNat, ofInt_toNat]
 unfold and
 rw [low a, low b, ← Nat.and_mod_two_pow]
 unfold wrap; omega
theorem or_eq (a b : Int) : wrap (bits .or .i64 a b) = or a b := by
 rw [i64_bits, wrap_i64]
 show wrap ((BitVec.ofInt 64 a ||| BitVec.ofInt 64 b).toNat : Int) = _
 rw [BitVec.toNat_or, ofInt_toNat, ofInt_toNat]
 unfold or
 rw [low a, low b, ← Nat.or_mod_two_pow]
 unfold wrap; omega
theorem xor_eq (a b : Int) : wrap (bits .xor .i64 a b) = xor a b := by
 rw [i64_bits, wrap_i64]
 show wrap ((BitVec.ofInt 64 a ^^^ BitVec.ofInt 64 b).toNat : Int) = _
 rw [BitVec.toNat_xor, ofInt_toNat, ofInt_toNat]
 unfold xor
 rw [low a, low b, ← Nat.xor_mod_two_pow]
 unfold wrap; omega
theorem rwrap_eq (n : Int) : wrap64 ((IntKind.u64.wrap n).tmod 4294967296) = wrap n := by
 rw [IntKind.wrap_u64, Int.tmod_eq_emod_of_nonneg (by omega)]
 unfold wrap wrap64; omega
theorem wrap64_in (n : Int) (h0 : -9223372036854775808 ≤ n) (h1 : n < 9223372036854775808) : wrap64 n = n := by unfold wrap64; omega
theorem wrap_wrap64 (n : Int) : wrap (wrap64 n) = wrap n := by unfold wrap wrap64; omega
theorem wrap_wrap (n : Int) : wrap (wrap n) = wrap n := by unfold wrap; omega
theorem mul_wraps (a b : Int) : (wrap a * wrap b) % 4294967296 = mul a b := by
 unfold wrap mul; rw [← Int.mul_emod]
theorem prod_u64' (a b : Int) : IntKind.u64.wrap (wrap a * wrap b) = wrap a * wrap b := u64_wrap _ (prod_bd a b).1 (prod_bd a b).2
theorem mul_eq (a b : Int) : wrap64 (bits .and .u64 (wrap a * wrap b) 4294967295) = mul a b := by
 have hp := prod_bd a b
 rw [← mul_wraps]
 generalize wrap a * wrap b = p at *
 show wrap64 (IntKind.u64.wrap ((BitVec.ofInt 64 p &&& BitVec.ofInt 64 4294967295).toNat : Int)) = _
 rw [BitVec.toNat_and, ofInt_toNat, ofInt_toNat]
 have e : ((4294967295 : Int) % 18446744073709551616).toNat = 2 ^ 32 - 1 := by decide
 rw [e, Nat.and_two_pow_sub_one_eq_mod, IntKind.wrap_u64]
 unfold wrap64; omega
theorem high_eq (a b : Int) : wrap64 (wrap a * wrap b / 4294967296) = high a b := by
 have hp := prod_bd a b
 unfold high
 generalize wrap a * wrap b = p at *
 unfold wrap64; omega
theorem ones_xor (x : Nat) (h : x < 2 ^ 32) : (2 ^ 32 - 1) ^^^ x = 2 ^ 32 - 1 - x := by
 apply Nat.eq_of_testBit_eq
 intro i
 have e : 2 ^ 32 - 1 - x = 2 ^ 32 - (x + 1) := by omega
 rw [e, Nat.testBit_xor, Nat.testBit_two_pow_sub_one, Nat.testBit_two_pow_sub_succ h]
 by_cases hi : i < 32
 ·simp [hi]
 ·simp only [hi, decide_false, Bool.false_xor, Bool.false_and]
  exact Nat.testBit_lt_two_pow (Nat.lt_of_lt_of_le h (Nat.pow_le_pow_right (by decide) (by omega)))
theorem not_eq (a : Int) : wrap (bits .xor .i64 (-1) a) = not a := by
 rw [xor_eq]
 have h := wrap_bd a
 unfold xor not
 have e : (wrap (-1)).toNat = 2 ^ 32 - 1 := by decide
 rw [e, ones_xor _ (by omega)]
 omega
theorem shl_eq (a n : Int) : wrap (wrap64 (wrap a * 2 ^ cnt n)) = shl a n := by rw [wrap_wrap64]; rfl
theorem and_1 (n : Int) : bits .and .i64 n 1 = n % 2 := by
 show IntKind.i64.wrap ((BitVec.ofInt 64 n &&& BitVec.ofInt 64 1).toNat : Int) = _
 rw [BitVec.toNat_and, ofInt_toNat, ofInt_toNat]
 have e : ((1 : Int) % 18446744073709551616).toNat = 2 ^ 1 - 1 := by decide
 rw [e, Nat.and_two_pow_sub_one_eq_mod, i64_small _ (by omega)]
 omega
theorem bit_eq (a n : Int) : bits .and .i64 (shr a n) 1 = bit a n := and_1 _
theorem or_nat (x y : Nat) (hx : x < 4294967296) (hy : y < 4294967296) : bits .or .i64 (x : Int) (y : Int) = ((x ||| y : Nat) : Int) := by
 have hor : x ||| y < 2 ^ 32 := Nat.or_lt_two_pow (by omega) (by omega)
 show IntKind.i64.wrap ((BitVec.ofInt 64 (x : Int) ||| BitVec.ofInt 64 (y : Int)).toNat : Int) = _
 rw [BitVec.toNat_or, ofInt_toNat, ofInt_toNat]
 have e1 : ((x : Int) % 18446744073709551616).toNat = x := by omega
 have e2 : ((y : Int) % 18446744073709551616).toNat = y := by omega
 rw [e1, e2, i64_small _ (by omega)]
theorem pow_cast (k : Nat) : ((2 : Int) ^ k) = ((2 ^ k : Nat) : Int) := by simp
/-- turned by k bits, in natural numbers -/
theorem ror_nat (A k : Nat) (hk : k < 32) (hA : A < 2 ^ 32) : A / 2 ^ k ||| A * 2 ^ (32 - k) % 2 ^ 32 = A / 2 ^ k + A % 2 ^ k * 2 ^ (32 - k) := by
 have e : A * 2 ^ (32 - k) % 2 ^ 32 = 2 ^ (32 - k) * (A % 2 ^ k) := by
  have h32 : (2 : Nat) ^ 32 = 2 ^ (32 - k) * 2 ^ k := by rw [← Nat.pow_add]; congr 1; omega
  rw [h32, Nat.mul_comm A, Nat.mul_mod_mul_left]
 have hq : A / 2 ^ k < 2 ^ (32 - k) := by
  rw [Nat.div_lt_iff_lt_mul (Nat.two_pow_pos k), ← Nat.pow_add]
  have : 32 - k + k = 32 := by omega
  rw [this]; exact hA
 rw [e, Nat.or_comm, ← Nat.two_pow_add_eq_or_of_lt hq]
 rw [Nat.mul_comm (2 ^ (32 - k)), Nat.add_comm]
theorem ror_eq (a n : Int) : bits .or .i64 (shr a n) (wrap (wrap64 (wrap a * 2 ^ (32 - cnt n)))) = ror a n := by
 rw [wrap_wrap64]
 have h := wrap_bd a
 have hc := cnt_lt n
 unfold shr ror
 obtain ⟨A, hA⟩ := Int.eq_ofNat_of_zero_le h.1
 rw [hA] at h ⊢
 generalize cnt n = k at *
 have hw : wrap ((A : Int) * 2 ^ (32 - k)) = ((A * 2 ^ (32 - k) % 2 ^ 32 : Nat) : Int) := by
  unfold wrap; rw [pow_cast, ← Int.natCast_mul]; generalize A * 2 ^ (32 - k) = p; omega
 have hs : (A : Int) / 2 ^ k = ((A / 2 ^ k : Nat) : Int) := by rw [pow_cast]; push_cast; rfl
 rw [hw, hs, or_nat]
 ·rw [ror_nat A k (by omega) (by omega)]; rfl
 ·have := Nat.div_le_self A (2 ^ k); omega
 ·omega
theorem div_lt (A k : Nat) (hA : A < 2 ^ 32) (hk : k ≤ 32) : A / 2 ^ k < 2 ^ (32 - k) := by
 rw [Nat.div_lt_iff_lt_mul (Nat.two_pow_pos k), ← Nat.pow_add]
 have : 32 - k + k = 32 := by omega
 rw [this]; exact hA
/-- one bit more from above, by an or -/
theorem or_bit (q r j : Nat) (h : r < 2 ^ j) : (2 ^ (j + 1) * q + r) ||| 2 ^ j = 2 ^ (j + 1) * q + r + 2 ^ j := by
 have h1 : r < 2 ^ (j + 1) := Nat.lt_of_lt_of_le h (Nat.pow_le_pow_right (by decide) (by omega))
 have h2 : 2 ^ j * 1 + r < 2 ^ (j + 1) := by rw [Nat.pow_succ]; omega
 have e : 2 ^ j ||| r = 2 ^ j * 1 + r := by rw [Nat.two_pow_add_eq_or_of_lt h, Nat.mul_one]
 have e2 : (2 ^ (j + 1) * q + r) ||| 2 ^ j = 2 ^ (j + 1) * q + (2 ^ j * 1 + r) := by
  rw [Nat.two_pow_add_eq_or_of_lt h1, Nat.or_assoc, Nat.or_comm r, e, ← Nat.two_pow_add_eq_or_of_lt h2]
 rw [e2, Nat.mul_one]
 generalize 2 ^ (j + 1) * q = x
 omega
/-- word's way: bits 31, 30, .. are laid, i of them so far -/
def sarW (A k i : Nat) : Nat := A / 2 ^ k + A / 2 ^ 31 * (2 ^ 32 - 2 ^ (32 - i))
theorem sarW_zero (A k : Nat) : sarW A k 0 = A / 2 ^ k := by simp [sarW]
theorem sarW_lt (A k i : Nat) (hA : A < 2 ^ 32) (hk : k ≤ 32) (hi : i ≤ k) : sarW A k i < 2 ^ 32 := by
 unfold sarW
 have h1 := div_lt A k hA hk
 have h2 : (2 : Nat) ^ (32 - i) ≤ 2 ^ 32 := Nat.pow_le_pow_right (by decide) (by omega)
 have h3 : (2 : Nat) ^ (32 - k) ≤ 2 ^ (32 - i) := Nat.pow_le_pow_right (by decide) (by omega)
 generalize (2 : Nat) ^ (32 - i) = p at *
 generalize (2 : Nat) ^ (32 - k) = p' at *
 rcases (show A / 2 ^ 31 = 0 ∨ A / 2 ^ 31 = 1 by omega) with h | h
 ·rw [h]; omega
 ·rw [h]; omega
theorem sarW_step (A k i : Nat) (hA : A < 2 ^ 32) (hk : k < 32) (hi : i < k) : sarW A k i ||| A / 2 ^ 31 * 2 ^ (31 - i) = sarW A k (i + 1) := by
 have h1 := div_lt A k hA (by omega)
 have h3 : (2 : Nat) ^ (32 - k) ≤ 2 ^ (31 - i) := Nat.pow_le_pow_right (by decide) (by omega)
 rcases (show A / 2 ^ 31 = 0 ∨ A / 2 ^ 31 = 1 by omega) with h | h
 ·unfold sarW; rw [h]; simp
 ·have e : 32 - i = 31 - i + 1 := by omega
  have e' : 32 - (i + 1) = 31 - i := by omega
  have hq : (2 : Nat) ^ 32 - 2 ^ (32 - i) = 2 ^ (31 - i + 1) * (2 ^ i - 1) := by
   rw [Nat.mul_sub, ← Nat.pow_add, Nat.mul_one, ← e, show 32 - i + i = 32 by omega]
  unfold sarW
  rw [h, Nat.one_mul, Nat.one_mul, Nat.one_mul, hq, Nat.add_comm (A / 2 ^ k), or_bit _ _ _ (Nat.lt_of_lt_of_le h1 h3), ← hq, e, e']
  have h5 : (2 : Nat) ^ (31 - i + 1) = 2 * 2 ^ (31 - i) := by rw [Nat.pow_succ, Nat.mul_comm]
  have h6 : (2 : Nat) ^ (31 - i + 1) ≤ 2 ^ 32 := Nat.pow_le_pow_right (by decide) (by omega)
  omega
theorem cnt_nat (k : Nat) (hk : k < 32) : cnt (k : Int) = k := by unfold cnt; omega
theorem bit_nat (a : Int) (k : Nat) (hk : k < 32) : bit a (k : Int) = (((wrap a).toNat.testBit k).toNat : Int) := by
 have h := wrap_bd a
 unfold bit shr
 rw [cnt_nat k hk, Nat.toNat_testBit]
 obtain ⟨A, hA⟩ := Int.eq_ofNat_of_zero_le h.1
 rw [hA, pow_cast]; push_cast; rfl
theorem bit_bd (a i : Int) : 0 ≤ bit a i ∧ bit a i ≤ 1 := by unfold bit; omega
theorem half (V k : Nat) : V / 2 ^ k = 2 * (V / 2 ^ (k + 1)) + (V.testBit k).toNat := by
 rw [Nat.toNat_testBit, Nat.pow_succ, ← Nat.div_div_eq_div_mul]; omega
theorem upto (V k : Nat) : V % 2 ^ (k + 1) = V % 2 ^ k + 2 ^ k * (V.testBit k).toNat := by
 rw [Nat.toNat_testBit]; exact Nat.mod_pow_succ
theorem wrap_nat (V : Nat) (h : V < 2 ^ 32) : (wrap (V : Int)).toNat = V := by unfold wrap; omega
theorem and_lt (a b : Int) : (wrap a).toNat &&& (wrap b).toNat < 2 ^ 32 := Nat.and_lt_two_pow _ (by have := wrap_bd b; omega)
theorem or_lt (a b : Int) : (wrap a).toNat ||| (wrap b).toNat < 2 ^ 32 := Nat.or_lt_two_pow (by have := wrap_bd a; omega) (by have := wrap_bd b; omega)
/-- each told word as a natural number, with its bits -/
def IsWord (V : Int) (f : Nat → Bool) : Prop := ∃ N : Nat, V = (N : Int) ∧ N < 2 ^ 32 ∧ ∀ k, k < 32 → N.testBit k = f k
theorem isWord_not (a : Int) : IsWord (not a) (fun k => !(wrap a).toNat.testBit k) := by
 have h := wrap_bd a
 refine ⟨2 ^ 32 - 1 - (wrap a).toNat, by unfold not; omega, by omega, fun k hk => ?_⟩
 have e : 2 ^ 32 - 1 - (wrap a).toNat = 2 ^ 32 - ((wrap a).toNat + 1) := by omega
 rw [e, Nat.testBit_two_pow_sub_succ (by omega)]
 simp [hk]
theorem isWord_and (a b : Int) : IsWord (and a b) (fun k => (wrap a).toNat.testBit k && (wrap b).toNat.testBit k) :=
 ⟨_, rfl, and_lt a b, fun _ _ => Nat.testBit_and _ _ _⟩
theorem IsWord.tb {V : Int} {f : Nat → Bool} (h : IsWord V f) (k : Nat) (hk : k < 32) : (wrap V).toNat.testBit k = f k := by
 obtain ⟨N, rfl, hN, hf⟩ := h
 rw [wrap_nat N hN, hf k hk]
theorem isWord_select (m a b : Int) : IsWord (select m a b) (fun k => if (wrap m).toNat.testBit k then (wrap a).toNat.testBit k else (wrap b).toNat.testBit k) := by
 refine ⟨_, rfl, or_lt _ _, fun k hk => ?_⟩
 rw [Nat.testBit_or, (isWord_and m a).tb k hk, (isWord_and (not m) b).tb k hk, (isWord_not m).tb k hk]
 by_cases h : (wrap m).toNat.testBit k = true
 ·simp [h]
 ·simp only [Bool.not_eq_true] at h; simp [h]
/-- two words with the same bits are the same -/
theorem IsWord.ext {V U : Int} {f g : Nat → Bool} (h : IsWord V f) (h' : IsWord U g) (e : ∀ k, k < 32 → f k = g k) : V = U := by
 obtain ⟨N, rfl, hN, hf⟩ := h
 obtain ⟨M, rfl, hM, hg⟩ := h'
 congr 1
 apply Nat.eq_of_testBit_eq
 intro k
 by_cases hk : k < 32
 ·rw [hf k hk, hg k hk, e k hk]
 ·rw [Nat.testBit_lt_two_pow (Nat.lt_of_lt_of_le hN (Nat.pow_le_pow_right (by decide) (by omega))), Nat.testBit_lt_two_pow (Nat.lt_of_lt_of_le hM (Nat.pow_le_pow_right (by decide) (by omega)))]
theorem IsWord.bd {V : Int} {f : Nat → Bool} (h : IsWord V f) : 0 ≤ V ∧ V < 4294967296 := by
 obtain ⟨N, rfl, hN, _⟩ := h; omega
def bot (V : Int) (k : Nat) : Int := V % 2 ^ k
theorem bot_0 (V : Int) : bot V 0 = 0 := by unfold bot; simp [Int.emod_one]
theorem IsWord.bot_32 {V : Int} {f : Nat → Bool} (h : IsWord V f) : bot V 32 = V := by
 have hb := h.bd
 unfold bot; omega
theorem IsWord.bot_step {V : Int} {f : Nat → Bool} (h : IsWord V f) (k : Nat) (hk : k < 32) : bits .or .i64 (bot V k) (wrap64 (((f k).toNat : Int) * 2 ^ k)) = bot V (k + 1) := by
 obtain ⟨N, rfl, hN, hf⟩ := h
 have hu := upto N k
 rw [hf k hk] at hu
 unfold bot
 have e1 : (N : Int) % 2 ^ k = ((N % 2 ^ k : Nat) : Int) := by rw [pow_cast]; push_cast; rfl
 have e2 : (N : Int) % 2 ^ (k + 1) = ((N % 2 ^ (k + 1) : Nat) : Int) := by rw [pow_cast]; push_cast; rfl
 have hp : (2 : Nat) ^ k ≤ 2 ^ 31 := Nat.pow_le_pow_right (by decide) (by omega)
 have hm : N % 2 ^ k < 2 ^ k := Nat.mod_lt _ (Nat.two_pow_pos k)
 rw [e1, e2, hu, pow_cast, ← Int.natCast_mul]
 cases f k
 ·simp only [Bool.toNat_false, Nat.zero_mul, Nat.mul_zero, Nat.add_zero]
  rw [wrap64_in _ (by omega) (by omega)]
  have := or_nat (N % 2 ^ k) 0 (by omega) (by omega)
  rw [Nat.or_zero] at this
  exact this
 ·simp only [Bool.toNat_true, Nat.one_mul, Nat.mul_one]
  rw [wrap64_in _ (by omega) (by omega), or_nat _ _ (by omega) (by omega), Nat.or_comm, Nat.add_comm]
  have := Nat.two_pow_add_eq_or_of_lt hm 1
  rw [Nat.mul_one] at this
  rw [this]
theorem bit_t {a : Int} {k : Nat} (hk : k < 32) (h : (bit a (k : Int) == 1) = true) : (wrap a).toNat.testBit k = true := by
 rw [beq_iff_eq, bit_nat a k hk] at h
 cases e : (wrap a).toNat.testBit k
 ·rw [e] at h; simp at h
 ·rfl
theorem bit_f {a : Int} {k : Nat} (hk : k < 32) (h : (bit a (k : Int) == 1) = false) : (wrap a).toNat.testBit k = false := by
 rw [beq_eq_false_iff_ne, bit_nat a k hk] at h
 cases e : (wrap a).toNat.testBit k
 ·rfl
 ·rw [e] at h; simp at h
theorem up_sel_t (m a b : Int) (k : Nat) (hk : k < 32) (h : (bit m (k : Int) == 1) = true) : bits .or .i64 (bot (select m a b) k) (wrap64 (bit a (k : Int) * 2 ^ k)) = bot (select m a b) (k + 1) := by
 rw [← (isWord_select m a b).bot_step k hk, bit_nat a k hk, bit_t hk h]; simp
theorem up_sel_f (m a b : Int) (k : Nat) (hk : k < 32) (h : (bit m (k : Int) == 1) = false) : bits .or .i64 (bot (select m a b) k) (wrap64 (bit b (k : Int) * 2 ^ k)) = bot (select m a b) (k + 1) := by
 rw [← (isWord_select m a b).bot_step k hk, bit_nat b k hk, bit_f hk h]; simp
theorem wn (a : Int) : (wrap a).toNat < 2 ^ 32 := by have := wrap_bd a; omega
theorem bit31 (a : Int) : bit a 31 = ((wrap a).toNat / 2 ^ 31 : Nat) := by
 have h := wn a
 have := bit_nat a 31 (by decide)
 rw [Nat.toNat_testBit] at this
 have e : ((31 : Nat) : Int) = 31 := rfl
 rw [e] at this
 rw [this]; congr 1; omega
theorem shr_nat (a n : Int) : shr a n = ((wrap a).toNat / 2 ^ cnt n : Nat) := by
 have h := wrap_bd a
 unfold shr
 obtain ⟨A, hA⟩ := Int.eq_ofNat_of_zero_le h.1
 rw [hA, pow_cast]; push_cast; rfl
theorem sarW_round (a : Int) (k i : Nat) (hk : k < 32) (hi : i < k) : bits .or .i64 (sarW (wrap a).toNat k i : Int) (wrap64 (bit a 31 * 2 ^ (31 - i))) = (sarW (wrap a).toNat k (i + 1) : Int) := by
 have h := wn a
 have hb := bit_bd a 31
 rw [bit31] at hb ⊢
 have hp : (2 : Nat) ^ (31 - i) ≤ 2 ^ 31 := Nat.pow_le_pow_right (by decide) (by omega)
 rw [← sarW_step _ k i h hk hi, pow_cast, ← Int.natCast_mul]
 have hm : (wrap a).toNat / 2 ^ 31 * 2 ^ (31 - i) ≤ 1 * 2 ^ 31 := Nat.mul_le_mul (by omega) hp
 rw [wrap64_in _ (by omega) (by omega), or_nat _ _ (sarW_lt _ k i h (by omega) (by omega)) (by omega)]
end Go.Proofs.YthciobjklhkkcaaGreat.Wd
end
section
namespace Go.Proofs.YthciobjklhkkcaaGreat.Th
open Go.RowKit

structure Ins where
 op : Int
 rd : Int
 rn : Int
 rm : Int
 ra : Int
 imm : Int
 cond : Int
 wide : Bool

def reachLo (op : Int) (wide : Bool) : Int := if op == 24 then (if wide then -16777216 else -2048) else if op == 25 then (if wide then -1048576 else -256) else 0
def reachHi (op : Int) (wide : Bool) : Int := if op == 24 then (if wide then 16777214 else 2046) else if op == 25 then (if wide then 1048574 else 254) else 0
def branch (op : Int) : Bool := op == 24 || op == 25
def reaches (op imm : Int) (wide : Bool) : Bool := decide (reachLo op wide ≤ imm) && decide (imm ≤ reachHi op wide) && imm % 2 == 0
def none0 : Ins := ⟨0, 0, 0, 0, 0, 0, 0, false⟩
def most (op imm : Int) : Ins :=
 if op == 1 then none0
 else if op == 2 then { none0 with imm := 255 }
 else if op == 3 || op == 4 then { none0 with rd := 12, imm := 65535 }
 else if op == 5 || op == 6 || op == 7 || op == 8 then { none0 with rd := 12, rm := 12, imm := 31 }
 else if op == 9 then { none0 with rd := 12, rm := 12 }
 else if op == 10 || op == 11 || op == 12 || op == 13 || op == 14 || op == 15 || op == 16 then { none0 with rd := 12, rn := 12, rm := 12 }
 else if op == 17 then { none0 with rd := 12, rn := 12, rm := 12, ra := 12 }
 else if op == 18 then { none0 with rd := 12, rn := 12, ra := wrap64 (32 - imm), imm := 31 }
 else if op == 19 || op == 20 || op == 21 || op == 22 then { none0 with rd := 7, rn := 7 }
 else if op == 23 then { none0 with rn := 7, rm := 7 }
 else if op == 24 then { none0 with imm := imm, wide := true }
 else if op == 25 then { none0 with imm := imm, cond := 13, wide := true }
 else none0
def known (op rd ra : Int) : Bool := if op == 17 then ra != rd else op == 1 || op == 2 || op == 3 || op == 4 || op == 5 || op == 6 || op == 7 || op == 8 || op == 9 || op == 10 || op == 11 || op == 12 || op == 13 || op == 14 || op == 15 || op == 16 || op == 18 || op == 19 || op == 20 || op == 21 || op == 22 || op == 23 || op == 24 || op == 25
def least (op imm : Int) : Ins :=
 if op == 6 || op == 7 || op == 8 then { none0 with imm := 1 }
 else if op == 18 then { none0 with ra := 1 }
 else if op == 24 || op == 25 then { none0 with imm := imm }
 else none0
def within (l i h : Ins) : Bool :=
 decide (l.rd ≤ i.rd) && decide (i.rd ≤ h.rd) && decide (l.rn ≤ i.rn) && decide (i.rn ≤ h.rn) && decide (l.rm ≤ i.rm) && decide (i.rm ≤ h.rm) &&
 decide (l.ra ≤ i.ra) && decide (i.ra ≤ h.ra) && decide (l.imm ≤ i.imm) && decide (i.imm ≤ h.imm) && decide (l.cond ≤ i.cond) && decide (i.cond ≤ h.cond) && (h.wide || !i.wide)
def fits (i : Ins) : Bool := known i.op i.rd i.ra && within (least i.op i.imm) i (most i.op i.imm)
def check (i : Ins) : Int := if fits i then (if branch i.op && !reaches i.op i.imm i.wide then 6 else 0) else 2
def short (op : Int) : Bool := op == 1 || op == 2 || op == 19 || op == 20 || op == 21 || op == 22 || op == 23
def size (i : Ins) : Int := if check i == 0 then (if short i.op then 2 else if branch i.op && !i.wide then 2 else 4) else 0
end Go.Proofs.YthciobjklhkkcaaGreat.Th
end
section
namespace Go.Proofs.YthciobjklhkkcaaGreat
open Go.ChangeShapes Go.WideShapes Go.ChangeAt Go.RowKit
theorem ret_int {k : IntKind} {a b : Int} (h : a = b) : Ending.returned (.int k a) = .returned (.int k b) := by rw [h]
theorem ret_two {k l : IntKind} {a b c d : Int} (h : a = b) (g : c = d) : Ending.returned (.tuple #[.int k a, .int l c]) = .returned (.tuple #[.int k b, .int l d]) := by rw [h, g]
theorem ret_bool {a b : Bool} (h : a = b) : Ending.returned (.bool a) = .returned (.bool b) := by rw [h]
theorem ret_str {a b : ByteArray} (h : a = b) : Ending.returned (.string a) = .returned (.string b) := by rw [h]
theorem below_drewN {B : Nat} {a w : World} (h : Below B a w) (n : Nat) : Below B a (w.drewN n) := ⟨h.os, h.tape, h.output, h.size, h.block⟩
theorem run_str4 (w : World) (c0 c1 c2 c3 : Int) (t : TypeId) :
  Sem.run Tryz.prog (convert 115 9 (.slice (some ⟨w.heap.size, 0, none⟩) 4 4)) (w.alloc (.cells #[.int .u8 c0, .int .u8 c1, .int .u8 c2, .int .u8 c3] t))
   = .ok (.string (strOfNums [c0, c1, c2, c3])) (w.alloc (.cells #[.int .u8 c0, .int .u8 c1, .int .u8 c2, .int .u8 c3] t)) := by
 refine run_convert_bytes_arg _ 115 5 Tryz.underlying115 Tryz.underlying5 w.heap.size 0 4 4 [c0, c1, c2, c3] rfl ?_ 9 Tryz.underlying9
 intro i hi
 match i, hi with
 | 0, _ => simp
 | 1, _ => simp
 | 2, _ => simp
 | 3, _ => simp
theorem cell_lt {w : World} {a : Addr} {u : Value} (h : w.cell? a = some u) : a.block < w.heap.size := by
 apply Nat.lt_of_not_le
 intro hge
 simp [World.cell?, Array.getElem?_eq_none hge] at h
theorem grown_below {A B : World} (h : Below A.heap.size A B) : A.grownBy B none := ⟨h.os, h.tape, h.output, h.size, fun k hk _ => h.block k hk⟩
end Go.Proofs.YthciobjklhkkcaaGreat
end
section
namespace Go.Proofs.YthciobjklhkkcaaGreat
open Go.ChangeShapes Go.WideShapes Go.ChangeAt Go.RowKit

abbrev InsAt (W : World) (b : Nat) (op rd rn rm ra imm cond : Int) (wide : Bool) : Prop :=
 W.cell? ⟨b, 0, none⟩ = some (.int .i64 op) ∧ W.cell? ⟨b, 1, none⟩ = some (.int .i64 rd) ∧ W.cell? ⟨b, 2, none⟩ = some (.int .i64 rn) ∧ W.cell? ⟨b, 3, none⟩ = some (.int .i64 rm) ∧ W.cell? ⟨b, 4, none⟩ = some (.int .i64 ra) ∧ W.cell? ⟨b, 5, none⟩ = some (.int .i64 imm) ∧ W.cell? ⟨b, 6, none⟩ = some (.int .i64 cond) ∧ W.cell? ⟨b, 7, none⟩ = some (.bool wide)
theorem ins_alloc (w : World) (t : TypeId) (op rd rn rm ra imm cond : Int) (wide : Bool) : InsAt (w.alloc (.cells #[.int .i64 op, .int .i64 rd, .int .i64 rn, .int .i64 rm, .int .i64 ra, .int .i64 imm, .int .i64 cond, .bool wide] t)) w.heap.size op rd rn rm ra imm cond wide := by
 refine ⟨?_, ?_, ?_, ?_, ?_, ?_, ?_, ?_⟩ <;> simp [go_sem]
section
variable {W w' : World} {b : Nat} {op rd rn rm ra imm cond : Int} {wide : Bool}
theorem InsAt.below (h : InsAt W b op rd rn rm ra imm cond wide) (hb : Below W.heap.size W w') (hlt : b < W.heap.size) : InsAt w' b op rd rn rm ra imm cond wide := by
 obtain ⟨h0, h1, h2, h3, h4, h5, h6, h7⟩ := h
 refine ⟨?_, ?_, ?_, ?_, ?_, ?_, ?_, ?_⟩ <;> (rw [hb.cell (by exact hlt)]; assumption)
theorem InsAt.alloc (h : InsAt W b op rd rn rm ra imm cond wide) (hlt : b < W.heap.size) (o : Obj) : InsAt (W.alloc o) b op rd rn rm ra imm cond wide :=
 h.below ((Below.refl _ _).alloc (Nat.le_refl _) o) hlt
end
end Go.Proofs.YthciobjklhkkcaaGreat
end
section
namespace Go.Proofs.YthciobjklhkkcaaGreat
open Go.RowKit
set_option linter.unusedVariables false

/-- a region -/
structure Mm.Rg where
 base : Int
 len : Int
 write : Bool
def Mm.whole (n : Int) : Bool := decide (0 ≤ n) && (n % 4 == 0)
/-- the error of sizes -/
def Mm.err (i o r f : Int) : Int :=
 if Mm.whole i && Mm.whole o && Mm.whole r && decide (0 ≤ f) && decide (4 ≤ r) then (if i ≤ 65536 ∧ o ≤ 65536 ∧ r ≤ 65536 ∧ f ≤ 262144 then 0 else 5) else 2
def Mm.seven (i o r f : Int) : List Mm.Rg :=
 [⟨0, f, false⟩, ⟨536936448, i, true⟩, ⟨537001984, o, true⟩, ⟨537133056, r, true⟩, ⟨537395200, r, true⟩, ⟨537919488, 4, true⟩, ⟨538968064, 4, true⟩]
def Mm.regs (i o r f : Int) : List Mm.Rg := if Mm.err i o r f = 0 then Mm.seven i o r f else []
/-- whether a region has all of n bytes from a on -/
def Mm.has (g : Mm.Rg) (a n : Int) : Bool := decide (g.base ≤ a ∧ n ≤ g.len ∧ a - g.base ≤ g.len - n)
/-- the place of the first one that has them, from k on -/
def Mm.look (a n : Int) (wr : Bool) : List Mm.Rg → Int → Int × Int
 | [], _ => (0, 8)
 | g :: L, k => if Mm.has g a n then (if wr && !g.write then (0, 8) else (k, 0)) else Mm.look a n wr L (k + 1)
def Mm.find (L : List Mm.Rg) (a n : Int) (wr : Bool) : Int × Int :=
 if n ≠ 1 ∧ n ≠ 4 then (0, 2) else if Int.tmod a n ≠ 0 then (0, 8) else Mm.look a n wr L 0
end Go.Proofs.YthciobjklhkkcaaGreat
end
