/-
Plain mathematics of numbers of 32 bits: what the calls of package word tell, as functions on integers, and their laws. It names nothing of the translated program.
Plain mathematics of instructions: what the calls of package thumb, and of the document's own thumb, tell, as functions on integers, and their laws. It names nothing of the translated program.
Plain mathematics of instructions: fields that are put into bits, and bytes. It names nothing of the translated program.
Plain mathematics of instructions: what each one keeps to. It names nothing of the translated program.
Plain mathematics of instructions: the bits and fields of each one, as the program writes them. It names nothing of the translated program.
Plain mathematics of instructions: each one's bits as a sum, how many bytes it has. It names nothing of the translated program.
Plain mathematics of instructions: from its bits an instruction is told again. It names nothing of the translated program.
Plain mathematics of instructions: unlike instructions have unlike bytes, none the beginning of the other ones'. It names nothing of the translated program.
The document's own table of instructions, and what it tells of them. It names nothing of the translated program.
The document's own table of instructions: what it asks is what the program asks. It names nothing of the translated program.
The document's own way of making an instruction's bits, letter by letter, makes the same number. It names nothing of the translated program.
-/
import Derived.WalkKit
import Derived.Laws.Bits64
section
namespace Go.Proofs.Ytplfpaffjaldoaa.Wd
open Go.RowKit

def wrap (n : Int) : Int := n % 4294967296
def add (a b : Int) : Int := (a + b) % 4294967296
def sub (a b : Int) : Int := (a - b) % 4294967296
def mul (a b : Int) : Int := (a * b) % 4294967296
def high (a b : Int) : Int := (wrap a * wrap b) / 4294967296
def carry (a b : Int) : Int := (wrap a + wrap b) / 4294967296
def cnt (n : Int) : Nat := (n % 32).toNat
def not (a : Int) : Int := 4294967295 - wrap a
def and (a b : Int) : Int := (((wrap a).toNat &&& (wrap b).toNat : Nat) : Int)
def or (a b : Int) : Int := (((wrap a).toNat ||| (wrap b).toNat : Nat) : Int)
def xor (a b : Int) : Int := (((wrap a).toNat ^^^ (wrap b).toNat : Nat) : Int)
def select (m a b : Int) : Int := or (and m a) (and (not m) b)
def shl (a n : Int) : Int := (wrap a * 2 ^ cnt n) % 4294967296
def shr (a n : Int) : Int := wrap a / 2 ^ cnt n
def bit (a i : Int) : Int := shr a i % 2
def flip (a i : Int) : Int := xor a (2 ^ cnt i)
def mask (b : Bool) : Int := if b then 4294967295 else 0
def less (a b : Int) : Int := mask (decide (wrap a < wrap b))
def same (a b : Int) : Int := mask (wrap a == wrap b)
/-- turned, and shifted with the sign, by k bits, in natural numbers -/
def rorN (A k : Nat) : Nat := A / 2 ^ k + A % 2 ^ k * 2 ^ (32 - k)
def sarN (A k : Nat) : Nat := A / 2 ^ k + A / 2 ^ 31 * (2 ^ 32 - 2 ^ (32 - k))
def ror (a n : Int) : Int := ((rorN (wrap a).toNat (cnt n) : Nat) : Int)
def sar (a n : Int) : Int := ((sarN (wrap a).toNat (cnt n) : Nat) : Int)

theorem wrap_bd (n : Int) : 0 ≤ wrap n ∧ wrap n < 4294967296 := by unfold wrap; omega

/-! ### the walk's own forms -/
theorem ofInt_toNat (n : Int) : (BitVec.ofInt 64 n).toNat = (n % 18446744073709551616).toNat := by
  rw [BitVec.toNat_ofInt]; rfl
theorem i64_small (n : Nat) (h : n < 9223372036854775808) : IntKind.i64.wrap (n : Int) = n := by
  rw [IntKind.wrap_i64]; omega
theorem and_ones (n : Int) : bits .and .i64 n 4294967295 = wrap n := by
  show IntKind.i64.wrap ((BitVec.ofInt 64 n &&& BitVec.ofInt 64 4294967295).toNat : Int) = _
  rw [BitVec.toNat_and, ofInt_toNat, ofInt_toNat]
  have e : ((4294967295 : Int) % 18446744073709551616).toNat = 2 ^ 32 - 1 := by decide
  rw [e, Nat.and_two_pow_sub_one_eq_mod, i64_small _ (by omega)]
  unfold wrap; omega
theorem and_31 (n : Int) : bits .and .i64 n 31 = (cnt n : Int) := by
  show IntKind.i64.wrap ((BitVec.ofInt 64 n &&& BitVec.ofInt 64 31).toNat : Int) = _
  rw [BitVec.toNat_and, ofInt_toNat, ofInt_toNat]
  have e : ((31 : Int) % 18446744073709551616).toNat = 2 ^ 5 - 1 := by decide
  rw [e, Nat.and_two_pow_sub_one_eq_mod, i64_small _ (by omega)]
  unfold cnt; omega
theorem cnt_lt (n : Int) : (cnt n : Int) < 32 := by unfold cnt; omega
theorem shr_bd (a n : Int) : 0 ≤ shr a n ∧ shr a n < 4294967296 := by
  have h := wrap_bd a
  unfold shr
  refine ⟨Int.ediv_nonneg h.1 (Int.pow_nonneg (by decide)), ?_⟩
  have := Int.ediv_le_self (2 ^ cnt n) h.1
  omega
theorem add_eq (a b : Int) : wrap (wrap a + wrap b) = add a b := by unfold wrap add; omega
theorem sub_eq (a b : Int) : wrap (wrap a - wrap b) = sub a b := by unfold wrap sub; omega
theorem rsub_eq (a b : Int) : wrap (wrap a + 4294967296 - wrap b) = sub a b := by unfold wrap sub; omega
theorem prod_bd (a b : Int) : 0 ≤ wrap a * wrap b ∧ wrap a * wrap b < 18446744073709551616 := by
  have ha := wrap_bd a
  have hb := wrap_bd b
  refine ⟨Int.mul_nonneg ha.1 hb.1, ?_⟩
  have := Int.mul_le_mul (show wrap a ≤ 4294967295 by omega) (show wrap b ≤ 4294967295 by omega) hb.1 (by decide)
  omega
theorem u64_wrap (n : Int) (h0 : 0 ≤ n) (h1 : n < 18446744073709551616) : IntKind.u64.wrap n = n := by rw [IntKind.wrap_u64]; omega
theorem prod_u64 (a b : Int) : IntKind.u64.wrap (IntKind.u64.wrap (wrap a) * IntKind.u64.wrap (wrap b)) = wrap a * wrap b := by
  have ha := wrap_bd a
  have hb := wrap_bd b
  have hp := prod_bd a b
  rw [u64_wrap (wrap a) ha.1 (by omega), u64_wrap (wrap b) hb.1 (by omega), u64_wrap _ hp.1 hp.2]
theorem i64_bits (op : BinOp) (a b : Int) : bits op .i64 a b = IntKind.i64.wrap ((match op with | .and => BitVec.ofInt 64 a &&& BitVec.ofInt 64 b | .or => BitVec.ofInt 64 a ||| BitVec.ofInt 64 b | .xor => BitVec.ofInt 64 a ^^^ BitVec.ofInt 64 b | _ => BitVec.ofInt 64 a &&& ~~~(BitVec.ofInt 64 b)).toNat : Int) := rfl
theorem wrap_i64 (n : Int) : wrap (IntKind.i64.wrap n) = wrap n := by rw [IntKind.wrap_i64]; unfold wrap; omega
theorem low (n : Int) : (wrap n).toNat = (n % 18446744073709551616).toNat % 2 ^ 32 := by unfold wrap; omega
theorem and_eq (a b : Int) : wrap (bits .and .i64 a b) = and a b := by
  rw [i64_bits, wrap_i64]
  show wrap ((BitVec.ofInt 64 a &&& BitVec.ofInt 64 b).toNat : Int) = _
  rw [BitVec.toNat_and, ofInt_toNat, ofInt_toNat]
  unfold and
  rw [low a, low b, ← Nat.and_mod_two_pow]
  unfold wrap; omega
theorem or_eq (a b : Int) : wrap (bits .or .i64 a b) = or a b := by
  rw [i64_bits, wrap_i64]
  show wrap ((BitVec.ofInt 64 a ||| BitVec.ofInt 64 b).toNat : Int) = _
  rw [BitVec.toNat_or, ofInt_toNat, ofInt_toNat]
  unfold or
  rw [low a, low b, ← Nat.or_mod_two_pow]
  unfold wrap; omega
theorem xor_eq (a b : Int) : wrap (bits .xor .i64 a b) = xor a b := by
  rw [i64_bits, wrap_i64]
  show wrap ((BitVec.ofInt 64 a ^^^ BitVec.ofInt 64 b).toNat : Int) = _
  rw [BitVec.toNat_xor, ofInt_toNat, ofInt_toNat]
  unfold xor
  rw [low a, low b, ← Nat.xor_mod_two_pow]
  unfold wrap; omega
theorem rwrap_eq (n : Int) : wrap64 ((IntKind.u64.wrap n).tmod 4294967296) = wrap n := by
  rw [IntKind.wrap_u64, Int.tmod_eq_emod_of_nonneg (by omega)]
  unfold wrap wrap64; omega
theorem wrap64_in (n : Int) (h0 : -9223372036854775808 ≤ n) (h1 : n < 9223372036854775808) : wrap64 n = n := by unfold wrap64; omega
theorem wrap_wrap64 (n : Int) : wrap (wrap64 n) = wrap n := by unfold wrap wrap64; omega
theorem wrap_wrap (n : Int) : wrap (wrap n) = wrap n := by unfold wrap; omega
theorem mul_wraps (a b : Int) : (wrap a * wrap b) % 4294967296 = mul a b := by
  unfold wrap mul; rw [← Int.mul_emod]
theorem prod_u64' (a b : Int) : IntKind.u64.wrap (wrap a * wrap b) = wrap a * wrap b := u64_wrap _ (prod_bd a b).1 (prod_bd a b).2
theorem mul_eq (a b : Int) : wrap64 (bits .and .u64 (wrap a * wrap b) 4294967295) = mul a b := by
  have hp := prod_bd a b
  rw [← mul_wraps]
  generalize wrap a * wrap b = p at *
  show wrap64 (IntKind.u64.wrap ((BitVec.ofInt 64 p &&& BitVec.ofInt 64 4294967295).toNat : Int)) = _
  rw [BitVec.toNat_and, ofInt_toNat, ofInt_toNat]
  have e : ((4294967295 : Int) % 18446744073709551616).toNat = 2 ^ 32 - 1 := by decide
  rw [e, Nat.and_two_pow_sub_one_eq_mod, IntKind.wrap_u64]
  unfold wrap64; omega
theorem high_eq (a b : Int) : wrap64 (wrap a * wrap b / 4294967296) = high a b := by
  have hp := prod_bd a b
  unfold high
  generalize wrap a * wrap b = p at *
  unfold wrap64; omega
theorem rmul_eq (a b : Int) : wrap64 ((IntKind.u64.wrap (wrap a * wrap b)).tmod 4294967296) = mul a b := by
  have hp := prod_bd a b
  rw [prod_u64', ← mul_wraps, Int.tmod_eq_emod_of_nonneg hp.1]
  generalize wrap a * wrap b = p at *
  unfold wrap64; omega
theorem rhigh_eq (a b : Int) : wrap64 (IntKind.u64.wrap ((IntKind.u64.wrap (wrap a * wrap b)).tdiv 4294967296)) = high a b := by
  have hp := prod_bd a b
  rw [prod_u64', Int.tdiv_eq_ediv_of_nonneg hp.1]
  unfold high
  generalize wrap a * wrap b = p at *
  rw [IntKind.wrap_u64]
  unfold wrap64; omega
theorem rmany_eq (n : Int) : wrap64 ((IntKind.u64.wrap n).tmod 32) = (cnt n : Int) := by
  rw [IntKind.wrap_u64, Int.tmod_eq_emod_of_nonneg (by omega)]
  unfold cnt wrap64; omega
theorem ones_xor (x : Nat) (h : x < 2 ^ 32) : (2 ^ 32 - 1) ^^^ x = 2 ^ 32 - 1 - x := by
  apply Nat.eq_of_testBit_eq
  intro i
  have e : 2 ^ 32 - 1 - x = 2 ^ 32 - (x + 1) := by omega
  rw [e, Nat.testBit_xor, Nat.testBit_two_pow_sub_one, Nat.testBit_two_pow_sub_succ h]
  by_cases hi : i < 32
  · simp [hi]
  · simp only [hi, decide_false, Bool.false_xor, Bool.false_and]
    exact Nat.testBit_lt_two_pow (Nat.lt_of_lt_of_le h (Nat.pow_le_pow_right (by decide) (by omega)))
theorem not_eq (a : Int) : wrap (bits .xor .i64 (-1) a) = not a := by
  rw [xor_eq]
  have h := wrap_bd a
  unfold xor not
  have e : (wrap (-1)).toNat = 2 ^ 32 - 1 := by decide
  rw [e, ones_xor _ (by omega)]
  omega
theorem shl_eq (a n : Int) : wrap (wrap64 (wrap a * 2 ^ cnt n)) = shl a n := by rw [wrap_wrap64]; rfl
theorem and_1 (n : Int) : bits .and .i64 n 1 = n % 2 := by
  show IntKind.i64.wrap ((BitVec.ofInt 64 n &&& BitVec.ofInt 64 1).toNat : Int) = _
  rw [BitVec.toNat_and, ofInt_toNat, ofInt_toNat]
  have e : ((1 : Int) % 18446744073709551616).toNat = 2 ^ 1 - 1 := by decide
  rw [e, Nat.and_two_pow_sub_one_eq_mod, i64_small _ (by omega)]
  omega
theorem bit_eq (a n : Int) : bits .and .i64 (shr a n) 1 = bit a n := and_1 _
theorem flip_eq (a n : Int) : xor a (wrap64 (2 ^ cnt n)) = flip a n := by unfold flip xor; rw [wrap_wrap64]
theorem or_nat (x y : Nat) (hx : x < 4294967296) (hy : y < 4294967296) : bits .or .i64 (x : Int) (y : Int) = ((x ||| y : Nat) : Int) := by
  have hor : x ||| y < 2 ^ 32 := Nat.or_lt_two_pow (by omega) (by omega)
  show IntKind.i64.wrap ((BitVec.ofInt 64 (x : Int) ||| BitVec.ofInt 64 (y : Int)).toNat : Int) = _
  rw [BitVec.toNat_or, ofInt_toNat, ofInt_toNat]
  have e1 : ((x : Int) % 18446744073709551616).toNat = x := by omega
  have e2 : ((y : Int) % 18446744073709551616).toNat = y := by omega
  rw [e1, e2, i64_small _ (by omega)]
theorem pow_cast (k : Nat) : ((2 : Int) ^ k) = ((2 ^ k : Nat) : Int) := by simp
/-- turned by k bits, in natural numbers -/
theorem ror_nat (A k : Nat) (hk : k < 32) (hA : A < 2 ^ 32) : A / 2 ^ k ||| A * 2 ^ (32 - k) % 2 ^ 32 = A / 2 ^ k + A % 2 ^ k * 2 ^ (32 - k) := by
  have e : A * 2 ^ (32 - k) % 2 ^ 32 = 2 ^ (32 - k) * (A % 2 ^ k) := by
    have h32 : (2 : Nat) ^ 32 = 2 ^ (32 - k) * 2 ^ k := by rw [← Nat.pow_add]; congr 1; omega
    rw [h32, Nat.mul_comm A, Nat.mul_mod_mul_left]
  have hq : A / 2 ^ k < 2 ^ (32 - k) := by
    rw [Nat.div_lt_iff_lt_mul (Nat.two_pow_pos k), ← Nat.pow_add]
    have : 32 - k + k = 32 := by omega
    rw [this]; exact hA
  rw [e, Nat.or_comm, ← Nat.two_pow_add_eq_or_of_lt hq]
  rw [Nat.mul_comm (2 ^ (32 - k)), Nat.add_comm]
theorem ror_eq (a n : Int) : bits .or .i64 (shr a n) (wrap (wrap64 (wrap a * 2 ^ (32 - cnt n)))) = ror a n := by
  rw [wrap_wrap64]
  have h := wrap_bd a
  have hc := cnt_lt n
  unfold shr ror
  obtain ⟨A, hA⟩ := Int.eq_ofNat_of_zero_le h.1
  rw [hA] at h ⊢
  generalize cnt n = k at *
  have hw : wrap ((A : Int) * 2 ^ (32 - k)) = ((A * 2 ^ (32 - k) % 2 ^ 32 : Nat) : Int) := by
    unfold wrap; rw [pow_cast, ← Int.natCast_mul]; generalize A * 2 ^ (32 - k) = p; omega
  have hs : (A : Int) / 2 ^ k = ((A / 2 ^ k : Nat) : Int) := by rw [pow_cast]; push_cast; rfl
  rw [hw, hs, or_nat]
  · rw [ror_nat A k (by omega) (by omega)]; rfl
  · have := Nat.div_le_self A (2 ^ k); omega
  · omega
theorem div_lt (A k : Nat) (hA : A < 2 ^ 32) (hk : k ≤ 32) : A / 2 ^ k < 2 ^ (32 - k) := by
  rw [Nat.div_lt_iff_lt_mul (Nat.two_pow_pos k), ← Nat.pow_add]
  have : 32 - k + k = 32 := by omega
  rw [this]; exact hA
theorem pow_split (k : Nat) (hk : k ≤ 32) : (2 : Nat) ^ (32 - k) * 2 ^ k = 2 ^ 32 := by
  rw [← Nat.pow_add]; congr 1; omega
theorem rorN_lt (A k : Nat) (hA : A < 2 ^ 32) (hk : k ≤ 32) : rorN A k < 2 ^ 32 := by
  unfold rorN
  have h1 := div_lt A k hA hk
  have h2 := pow_split k hk
  have h3 : A % 2 ^ k + 1 ≤ 2 ^ k := Nat.mod_lt _ (Nat.two_pow_pos k)
  have h4 : (A % 2 ^ k + 1) * 2 ^ (32 - k) ≤ 2 ^ k * 2 ^ (32 - k) := Nat.mul_le_mul_right _ h3
  rw [Nat.mul_comm (2 ^ k), h2, Nat.add_mul, Nat.one_mul] at h4
  omega
theorem rorN_zero (A : Nat) : rorN A 0 = A := by simp [rorN, Nat.mod_one]
theorem sarN_zero (A : Nat) : sarN A 0 = A := by simp [sarN]
theorem rorN_step (A k : Nat) (hk : k < 32) : rorN A k / 2 + rorN A k % 2 * 2147483648 = rorN A (k + 1) := by
  unfold rorN
  have e1 : (2 : Nat) ^ (32 - k) = 2 * 2 ^ (32 - (k + 1)) := by
    have : 32 - k = 32 - (k + 1) + 1 := by omega
    rw [this, Nat.pow_succ, Nat.mul_comm]
  have e2 : A % 2 ^ (k + 1) = A % 2 ^ k + 2 ^ k * (A / 2 ^ k % 2) := Nat.mod_pow_succ
  have e3 : A / 2 ^ (k + 1) = A / 2 ^ k / 2 := by rw [Nat.pow_succ, Nat.div_div_eq_div_mul]
  have e4 : (2 : Nat) ^ k * 2 ^ (32 - (k + 1)) = 2147483648 := by
    rw [← Nat.pow_add]; have : k + (32 - (k + 1)) = 31 := by omega
    rw [this]
  rw [e2, e3, e1, Nat.add_mul]
  have e5 : 2 ^ k * (A / 2 ^ k % 2) * 2 ^ (32 - (k + 1)) = A / 2 ^ k % 2 * 2147483648 := by
    rw [Nat.mul_right_comm, e4, Nat.mul_comm]
  have e6 : A % 2 ^ k * (2 * 2 ^ (32 - (k + 1))) = 2 * (A % 2 ^ k * 2 ^ (32 - (k + 1))) := by
    rw [Nat.mul_left_comm]
  rw [e5, e6]
  generalize A % 2 ^ k * 2 ^ (32 - (k + 1)) = x
  generalize A / 2 ^ k = y
  omega
theorem sarN_lt (A k : Nat) (hA : A < 2 ^ 32) (hk : k ≤ 32) : sarN A k < 2 ^ 32 := by
  unfold sarN
  have h1 := div_lt A k hA hk
  have h2 : (2 : Nat) ^ (32 - k) ≤ 2 ^ 32 := Nat.pow_le_pow_right (by decide) (by omega)
  generalize (2 : Nat) ^ (32 - k) = p at *
  rcases (show A / 2 ^ 31 = 0 ∨ A / 2 ^ 31 = 1 by omega) with h | h
  · rw [h]; omega
  · rw [h]; omega
theorem sarN_step (A k : Nat) (hA : A < 2 ^ 32) (hk : k < 32) : sarN A k / 2 + sarN A k / 2147483648 * 2147483648 = sarN A (k + 1) := by
  unfold sarN
  have e1 : (2 : Nat) ^ (32 - k) = 2 * 2 ^ (32 - (k + 1)) := by
    have : 32 - k = 32 - (k + 1) + 1 := by omega
    rw [this, Nat.pow_succ, Nat.mul_comm]
  have e3 : A / 2 ^ (k + 1) = A / 2 ^ k / 2 := by rw [Nat.pow_succ, Nat.div_div_eq_div_mul]
  have h1 := div_lt A k hA (by omega)
  have h2 : (2 : Nat) ^ (32 - (k + 1)) ≤ 2 ^ 31 := Nat.pow_le_pow_right (by decide) (by omega)
  by_cases hz : k = 0
  · subst hz
    simp only [Nat.pow_zero, Nat.div_one, Nat.sub_zero, Nat.sub_self, Nat.mul_zero, Nat.add_zero]
  · have h3 : (2 : Nat) ^ (32 - (k + 1)) ≤ 2 ^ 30 := Nat.pow_le_pow_right (by decide) (by omega)
    rw [e3, e1]
    rw [e1] at h1
    have hle : A / 2 ^ k ≤ A := Nat.div_le_self _ _
    generalize (2 : Nat) ^ (32 - (k + 1)) = p at *
    generalize A / 2 ^ k = y at *
    rcases (show A / 2 ^ 31 = 0 ∨ A / 2 ^ 31 = 1 by omega) with h | h
    · rw [h]; omega
    · rw [h]; omega
/-- one bit more from above, by an or -/
theorem or_bit (q r j : Nat) (h : r < 2 ^ j) : (2 ^ (j + 1) * q + r) ||| 2 ^ j = 2 ^ (j + 1) * q + r + 2 ^ j := by
  have h1 : r < 2 ^ (j + 1) := Nat.lt_of_lt_of_le h (Nat.pow_le_pow_right (by decide) (by omega))
  have h2 : 2 ^ j * 1 + r < 2 ^ (j + 1) := by rw [Nat.pow_succ]; omega
  have e : 2 ^ j ||| r = 2 ^ j * 1 + r := by rw [Nat.two_pow_add_eq_or_of_lt h, Nat.mul_one]
  have e2 : (2 ^ (j + 1) * q + r) ||| 2 ^ j = 2 ^ (j + 1) * q + (2 ^ j * 1 + r) := by
    rw [Nat.two_pow_add_eq_or_of_lt h1, Nat.or_assoc, Nat.or_comm r, e, ← Nat.two_pow_add_eq_or_of_lt h2]
  rw [e2, Nat.mul_one]
  generalize 2 ^ (j + 1) * q = x
  omega
/-- word's way: bits 31, 30, .. are laid, i of them so far -/
def sarW (A k i : Nat) : Nat := A / 2 ^ k + A / 2 ^ 31 * (2 ^ 32 - 2 ^ (32 - i))
theorem sarW_zero (A k : Nat) : sarW A k 0 = A / 2 ^ k := by simp [sarW]
theorem sarW_all (A k : Nat) : sarW A k k = sarN A k := rfl
theorem sarW_lt (A k i : Nat) (hA : A < 2 ^ 32) (hk : k ≤ 32) (hi : i ≤ k) : sarW A k i < 2 ^ 32 := by
  unfold sarW
  have h1 := div_lt A k hA hk
  have h2 : (2 : Nat) ^ (32 - i) ≤ 2 ^ 32 := Nat.pow_le_pow_right (by decide) (by omega)
  have h3 : (2 : Nat) ^ (32 - k) ≤ 2 ^ (32 - i) := Nat.pow_le_pow_right (by decide) (by omega)
  generalize (2 : Nat) ^ (32 - i) = p at *
  generalize (2 : Nat) ^ (32 - k) = p' at *
  rcases (show A / 2 ^ 31 = 0 ∨ A / 2 ^ 31 = 1 by omega) with h | h
  · rw [h]; omega
  · rw [h]; omega
theorem sarW_step (A k i : Nat) (hA : A < 2 ^ 32) (hk : k < 32) (hi : i < k) : sarW A k i ||| A / 2 ^ 31 * 2 ^ (31 - i) = sarW A k (i + 1) := by
  have h1 := div_lt A k hA (by omega)
  have h3 : (2 : Nat) ^ (32 - k) ≤ 2 ^ (31 - i) := Nat.pow_le_pow_right (by decide) (by omega)
  rcases (show A / 2 ^ 31 = 0 ∨ A / 2 ^ 31 = 1 by omega) with h | h
  · unfold sarW; rw [h]; simp
  · have e : 32 - i = 31 - i + 1 := by omega
    have e' : 32 - (i + 1) = 31 - i := by omega
    have hq : (2 : Nat) ^ 32 - 2 ^ (32 - i) = 2 ^ (31 - i + 1) * (2 ^ i - 1) := by
      rw [Nat.mul_sub, ← Nat.pow_add, Nat.mul_one, ← e, show 32 - i + i = 32 by omega]
    unfold sarW
    rw [h, Nat.one_mul, Nat.one_mul, Nat.one_mul, hq, Nat.add_comm (A / 2 ^ k), or_bit _ _ _ (Nat.lt_of_lt_of_le h1 h3), ← hq, e, e']
    have h5 : (2 : Nat) ^ (31 - i + 1) = 2 * 2 ^ (31 - i) := by rw [Nat.pow_succ, Nat.mul_comm]
    have h6 : (2 : Nat) ^ (31 - i + 1) ≤ 2 ^ 32 := Nat.pow_le_pow_right (by decide) (by omega)
    omega
/-! ### bits -/
theorem cnt_nat (k : Nat) (hk : k < 32) : cnt (k : Int) = k := by unfold cnt; omega
theorem bit_nat (a : Int) (k : Nat) (hk : k < 32) : bit a (k : Int) = (((wrap a).toNat.testBit k).toNat : Int) := by
  have h := wrap_bd a
  unfold bit shr
  rw [cnt_nat k hk, Nat.toNat_testBit]
  obtain ⟨A, hA⟩ := Int.eq_ofNat_of_zero_le h.1
  rw [hA, pow_cast]; push_cast; rfl
theorem bit_cnt (a i : Int) : bit a i = bit a (cnt i : Int) := by
  unfold bit shr; rw [cnt_nat _ (by have := cnt_lt i; omega)]
theorem bit_is (a i : Int) : bit a i = (((wrap a).toNat.testBit (cnt i)).toNat : Int) := by
  rw [bit_cnt, bit_nat _ _ (by have := cnt_lt i; omega)]
theorem bit_bd (a i : Int) : 0 ≤ bit a i ∧ bit a i ≤ 1 := by unfold bit; omega
theorem half (V k : Nat) : V / 2 ^ k = 2 * (V / 2 ^ (k + 1)) + (V.testBit k).toNat := by
  rw [Nat.toNat_testBit, Nat.pow_succ, ← Nat.div_div_eq_div_mul]; omega
theorem upto (V k : Nat) : V % 2 ^ (k + 1) = V % 2 ^ k + 2 ^ k * (V.testBit k).toNat := by
  rw [Nat.toNat_testBit]; exact Nat.mod_pow_succ
theorem tb_hi (a : Int) (k : Nat) (hk : 32 ≤ k) : (wrap a).toNat.testBit k = false := by
  have h := wrap_bd a
  apply Nat.testBit_lt_two_pow
  exact Nat.lt_of_lt_of_le (show (wrap a).toNat < 2 ^ 32 by omega) (Nat.pow_le_pow_right (by decide) hk)
theorem wrap_nat (V : Nat) (h : V < 2 ^ 32) : (wrap (V : Int)).toNat = V := by unfold wrap; omega
theorem and_lt (a b : Int) : (wrap a).toNat &&& (wrap b).toNat < 2 ^ 32 := Nat.and_lt_two_pow _ (by have := wrap_bd b; omega)
theorem or_lt (a b : Int) : (wrap a).toNat ||| (wrap b).toNat < 2 ^ 32 := Nat.or_lt_two_pow (by have := wrap_bd a; omega) (by have := wrap_bd b; omega)
theorem xor_lt (a b : Int) : (wrap a).toNat ^^^ (wrap b).toNat < 2 ^ 32 := Nat.xor_lt_two_pow (by have := wrap_bd a; omega) (by have := wrap_bd b; omega)
theorem not_lt (a : Int) : 2 ^ 32 - 1 - (wrap a).toNat < 2 ^ 32 := by omega
/-- each told word as a natural number, with its bits -/
def IsWord (V : Int) (f : Nat → Bool) : Prop := ∃ N : Nat, V = (N : Int) ∧ N < 2 ^ 32 ∧ ∀ k, k < 32 → N.testBit k = f k
theorem isWord_wrap (a : Int) : IsWord (wrap a) (fun k => (wrap a).toNat.testBit k) :=
  ⟨(wrap a).toNat, by have := wrap_bd a; omega, by have := wrap_bd a; omega, fun _ _ => rfl⟩
theorem isWord_not (a : Int) : IsWord (not a) (fun k => !(wrap a).toNat.testBit k) := by
  have h := wrap_bd a
  refine ⟨2 ^ 32 - 1 - (wrap a).toNat, by unfold not; omega, by omega, fun k hk => ?_⟩
  have e : 2 ^ 32 - 1 - (wrap a).toNat = 2 ^ 32 - ((wrap a).toNat + 1) := by omega
  rw [e, Nat.testBit_two_pow_sub_succ (by omega)]
  simp [hk]
theorem isWord_and (a b : Int) : IsWord (and a b) (fun k => (wrap a).toNat.testBit k && (wrap b).toNat.testBit k) :=
  ⟨_, rfl, and_lt a b, fun _ _ => Nat.testBit_and _ _ _⟩
theorem isWord_or (a b : Int) : IsWord (or a b) (fun k => (wrap a).toNat.testBit k || (wrap b).toNat.testBit k) :=
  ⟨_, rfl, or_lt a b, fun _ _ => Nat.testBit_or _ _ _⟩
theorem isWord_xor (a b : Int) : IsWord (xor a b) (fun k => ((wrap a).toNat.testBit k ^^ (wrap b).toNat.testBit k)) :=
  ⟨_, rfl, xor_lt a b, fun _ _ => Nat.testBit_xor _ _ _⟩
theorem IsWord.tb {V : Int} {f : Nat → Bool} (h : IsWord V f) (k : Nat) (hk : k < 32) : (wrap V).toNat.testBit k = f k := by
  obtain ⟨N, rfl, hN, hf⟩ := h
  rw [wrap_nat N hN, hf k hk]
theorem isWord_select (m a b : Int) : IsWord (select m a b) (fun k => if (wrap m).toNat.testBit k then (wrap a).toNat.testBit k else (wrap b).toNat.testBit k) := by
  refine ⟨_, rfl, or_lt _ _, fun k hk => ?_⟩
  rw [Nat.testBit_or, (isWord_and m a).tb k hk, (isWord_and (not m) b).tb k hk, (isWord_not m).tb k hk]
  by_cases h : (wrap m).toNat.testBit k = true
  · simp [h]
  · simp only [Bool.not_eq_true] at h; simp [h]
/-- two words with the same bits are the same -/
theorem IsWord.ext {V U : Int} {f g : Nat → Bool} (h : IsWord V f) (h' : IsWord U g) (e : ∀ k, k < 32 → f k = g k) : V = U := by
  obtain ⟨N, rfl, hN, hf⟩ := h
  obtain ⟨M, rfl, hM, hg⟩ := h'
  congr 1
  apply Nat.eq_of_testBit_eq
  intro k
  by_cases hk : k < 32
  · rw [hf k hk, hg k hk, e k hk]
  · rw [Nat.testBit_lt_two_pow (Nat.lt_of_lt_of_le hN (Nat.pow_le_pow_right (by decide) (by omega))), Nat.testBit_lt_two_pow (Nat.lt_of_lt_of_le hM (Nat.pow_le_pow_right (by decide) (by omega)))]
theorem IsWord.bd {V : Int} {f : Nat → Bool} (h : IsWord V f) : 0 ≤ V ∧ V < 4294967296 := by
  obtain ⟨N, rfl, hN, _⟩ := h; omega
/-- from above, a bit a round; from below, a bit a round -/
def top (V : Int) (k : Nat) : Int := V / 2 ^ k
def bot (V : Int) (k : Nat) : Int := V % 2 ^ k
theorem IsWord.top_bd {V : Int} {f : Nat → Bool} (h : IsWord V f) (k : Nat) : 0 ≤ top V k ∧ top V k < 4294967296 := by
  have hb := h.bd
  unfold top
  refine ⟨Int.ediv_nonneg hb.1 (Int.pow_nonneg (by decide)), ?_⟩
  have := Int.ediv_le_self (2 ^ k) hb.1
  omega
theorem IsWord.top_step {V : Int} {f : Nat → Bool} (h : IsWord V f) (k : Nat) (hk : k < 32) : 2 * top V (k + 1) + ((f k).toNat : Int) = top V k := by
  obtain ⟨N, rfl, hN, hf⟩ := h
  have := half N k
  rw [hf k hk] at this
  unfold top
  have e1 : (N : Int) / 2 ^ k = ((N / 2 ^ k : Nat) : Int) := by rw [pow_cast]; push_cast; rfl
  have e2 : (N : Int) / 2 ^ (k + 1) = ((N / 2 ^ (k + 1) : Nat) : Int) := by rw [pow_cast]; push_cast; rfl
  rw [e1, e2, this]
  omega
theorem IsWord.top_32 {V : Int} {f : Nat → Bool} (h : IsWord V f) : top V 32 = 0 := by
  have hb := h.bd
  unfold top; omega
theorem top_0 (V : Int) : top V 0 = V := by unfold top; simp
theorem bot_0 (V : Int) : bot V 0 = 0 := by unfold bot; simp [Int.emod_one]
theorem IsWord.bot_32 {V : Int} {f : Nat → Bool} (h : IsWord V f) : bot V 32 = V := by
  have hb := h.bd
  unfold bot; omega
theorem IsWord.bot_step {V : Int} {f : Nat → Bool} (h : IsWord V f) (k : Nat) (hk : k < 32) : bits .or .i64 (bot V k) (wrap64 (((f k).toNat : Int) * 2 ^ k)) = bot V (k + 1) := by
  obtain ⟨N, rfl, hN, hf⟩ := h
  have hu := upto N k
  rw [hf k hk] at hu
  unfold bot
  have e1 : (N : Int) % 2 ^ k = ((N % 2 ^ k : Nat) : Int) := by rw [pow_cast]; push_cast; rfl
  have e2 : (N : Int) % 2 ^ (k + 1) = ((N % 2 ^ (k + 1) : Nat) : Int) := by rw [pow_cast]; push_cast; rfl
  have hp : (2 : Nat) ^ k ≤ 2 ^ 31 := Nat.pow_le_pow_right (by decide) (by omega)
  have hm : N % 2 ^ k < 2 ^ k := Nat.mod_lt _ (Nat.two_pow_pos k)
  rw [e1, e2, hu, pow_cast, ← Int.natCast_mul]
  cases f k
  · simp only [Bool.toNat_false, Nat.zero_mul, Nat.mul_zero, Nat.add_zero]
    rw [wrap64_in _ (by omega) (by omega)]
    have := or_nat (N % 2 ^ k) 0 (by omega) (by omega)
    rw [Nat.or_zero] at this
    exact this
  · simp only [Bool.toNat_true, Nat.one_mul, Nat.mul_one]
    rw [wrap64_in _ (by omega) (by omega), or_nat _ _ (by omega) (by omega), Nat.or_comm, Nat.add_comm]
    have := Nat.two_pow_add_eq_or_of_lt hm 1
    rw [Nat.mul_one] at this
    rw [this]
def pow2 (k : Nat) : Int := 2 ^ k
theorem pow2_pos (k : Nat) : 1 ≤ pow2 k := by unfold pow2; rw [pow_cast]; have := Nat.two_pow_pos k; omega
theorem pow2_bd (k : Nat) (h : k ≤ 61) : 1 ≤ pow2 k ∧ pow2 k ≤ 2305843009213693952 := by
  refine ⟨pow2_pos k, ?_⟩
  unfold pow2; rw [pow_cast]
  have : (2 : Nat) ^ k ≤ 2 ^ 61 := Nat.pow_le_pow_right (by decide) h
  omega
theorem pow2_succ (k : Nat) : pow2 (k + 1) = pow2 k * 2 := by unfold pow2; rw [Int.pow_succ]
theorem rbit_eq (a i : Int) : (wrap a / pow2 (cnt i)).tmod 2 = bit a i := by
  rw [Int.tmod_eq_emod_of_nonneg (Int.ediv_nonneg (wrap_bd a).1 (Int.le_trans (by decide) (pow2_pos _)))]; rfl
theorem rshl_eq (a n : Int) : mul a (pow2 (cnt n)) = shl a n := by
  unfold mul shl wrap pow2
  generalize (2 : Int) ^ cnt n = p
  have e : ∀ x y : Int, x % 4294967296 * y % 4294967296 = x * y % 4294967296 := fun x y => by
    rw [Int.mul_emod (x % 4294967296) y, Int.emod_emod_of_dvd x (Int.dvd_refl _), ← Int.mul_emod]
  exact (e a p).symm
theorem xor_bit_up (A k : Nat) (h : A.testBit k = false) : A ^^^ 2 ^ k = A + 2 ^ k := by
  have e : A ^^^ 2 ^ k = A ||| 2 ^ k := by
    apply Nat.eq_of_testBit_eq
    intro i
    rw [Nat.testBit_xor, Nat.testBit_or, Nat.testBit_two_pow]
    by_cases hi : k = i
    · subst hi; simp [h]
    · simp [hi]
  have hu := upto A k
  replace hu : A % 2 ^ (k + 1) = A % 2 ^ k := by rw [hu, h]; simp
  have hd := Nat.div_add_mod A (2 ^ (k + 1))
  rw [hu] at hd
  have := or_bit (A / 2 ^ (k + 1)) (A % 2 ^ k) k (Nat.mod_lt _ (Nat.two_pow_pos k))
  rw [hd] at this
  rw [e, this]
theorem xor_bit_down (A k : Nat) (h : A.testBit k = true) : (A ^^^ 2 ^ k) + 2 ^ k = A := by
  have hb : (A ^^^ 2 ^ k).testBit k = false := by rw [Nat.testBit_xor, Nat.testBit_two_pow, h]; simp
  rw [← xor_bit_up _ _ hb, Nat.xor_assoc, Nat.xor_self, Nat.xor_zero]
theorem flip_nat (a n : Int) : flip a n = (((wrap a).toNat ^^^ 2 ^ cnt n : Nat) : Int) := by
  have hc := cnt_lt n
  unfold flip xor
  have hp : (2 : Nat) ^ cnt n < 2 ^ 32 := Nat.pow_lt_pow_right (by decide) (by omega)
  rw [pow_cast, wrap_nat _ hp]
theorem rflip_t (a n : Int) (h : (bit a n == 1) = true) : wrap a - pow2 (cnt n) = flip a n := by
  have hw := wrap_bd a
  rw [beq_iff_eq, bit_is] at h
  have ht : (wrap a).toNat.testBit (cnt n) = true := by
    cases e : (wrap a).toNat.testBit (cnt n)
    · rw [e] at h; simp at h
    · rfl
  have := xor_bit_down _ _ ht
  rw [flip_nat]; unfold pow2; rw [pow_cast]; omega
theorem rflip_f (a n : Int) (h : (bit a n == 1) = false) : wrap a + pow2 (cnt n) = flip a n := by
  have hw := wrap_bd a
  rw [beq_eq_false_iff_ne, bit_is] at h
  have ht : (wrap a).toNat.testBit (cnt n) = false := by
    cases e : (wrap a).toNat.testBit (cnt n)
    · rfl
    · rw [e] at h; simp at h
  have := xor_bit_up _ _ ht
  rw [flip_nat, this]; unfold pow2; rw [pow_cast]; omega
/-! ### the rounds of the document's word, from above -/
theorem step_not (a : Int) (k : Nat) (hk : k < 32) : 2 * top (not a) (k + 1) + (1 - bit a (k : Int)) = top (not a) k := by
  rw [← (isWord_not a).top_step k hk, bit_nat a k hk]
  cases (wrap a).toNat.testBit k <;> rfl
theorem step_and (a b : Int) (k : Nat) (hk : k < 32) : 2 * top (and a b) (k + 1) + bit a (k : Int) * bit b (k : Int) = top (and a b) k := by
  rw [← (isWord_and a b).top_step k hk, bit_nat a k hk, bit_nat b k hk]
  cases (wrap a).toNat.testBit k <;> cases (wrap b).toNat.testBit k <;> rfl
theorem step_or (a b : Int) (k : Nat) (hk : k < 32) : 2 * top (or a b) (k + 1) + (if bit a (k : Int) < bit b (k : Int) then bit b (k : Int) else bit a (k : Int)) = top (or a b) k := by
  rw [← (isWord_or a b).top_step k hk, bit_nat a k hk, bit_nat b k hk]
  cases (wrap a).toNat.testBit k <;> cases (wrap b).toNat.testBit k <;> rfl
theorem step_xor (a b : Int) (k : Nat) (hk : k < 32) : 2 * top (xor a b) (k + 1) + (bit a (k : Int) + bit b (k : Int)) % 2 = top (xor a b) k := by
  rw [← (isWord_xor a b).top_step k hk, bit_nat a k hk, bit_nat b k hk]
  cases (wrap a).toNat.testBit k <;> cases (wrap b).toNat.testBit k <;> rfl
theorem bit_t {a : Int} {k : Nat} (hk : k < 32) (h : (bit a (k : Int) == 1) = true) : (wrap a).toNat.testBit k = true := by
  rw [beq_iff_eq, bit_nat a k hk] at h
  cases e : (wrap a).toNat.testBit k
  · rw [e] at h; simp at h
  · rfl
theorem bit_f {a : Int} {k : Nat} (hk : k < 32) (h : (bit a (k : Int) == 1) = false) : (wrap a).toNat.testBit k = false := by
  rw [beq_eq_false_iff_ne, bit_nat a k hk] at h
  cases e : (wrap a).toNat.testBit k
  · rfl
  · rw [e] at h; simp at h
theorem step_sel_t (m a b : Int) (k : Nat) (hk : k < 32) (h : (bit m (k : Int) == 1) = true) : 2 * top (select m a b) (k + 1) + bit a (k : Int) = top (select m a b) k := by
  rw [← (isWord_select m a b).top_step k hk, bit_nat a k hk, bit_t hk h]; simp
theorem step_sel_f (m a b : Int) (k : Nat) (hk : k < 32) (h : (bit m (k : Int) == 1) = false) : 2 * top (select m a b) (k + 1) + bit b (k : Int) = top (select m a b) k := by
  rw [← (isWord_select m a b).top_step k hk, bit_nat b k hk, bit_f hk h]; simp
theorem up_sel_t (m a b : Int) (k : Nat) (hk : k < 32) (h : (bit m (k : Int) == 1) = true) : bits .or .i64 (bot (select m a b) k) (wrap64 (bit a (k : Int) * 2 ^ k)) = bot (select m a b) (k + 1) := by
  rw [← (isWord_select m a b).bot_step k hk, bit_nat a k hk, bit_t hk h]; simp
theorem up_sel_f (m a b : Int) (k : Nat) (hk : k < 32) (h : (bit m (k : Int) == 1) = false) : bits .or .i64 (bot (select m a b) k) (wrap64 (bit b (k : Int) * 2 ^ k)) = bot (select m a b) (k + 1) := by
  rw [← (isWord_select m a b).bot_step k hk, bit_nat b k hk, bit_f hk h]; simp
theorem bits_prod (a b i : Int) : 0 ≤ bit a i * bit b i ∧ bit a i * bit b i ≤ 1 := by
  have h1 := bit_bd a i
  have h2 := bit_bd b i
  rcases (show bit a i = 0 ∨ bit a i = 1 by omega) with h | h <;> rw [h] <;> omega
theorem bot_bd (V : Int) (k : Nat) : 0 ≤ bot V k := Int.emod_nonneg _ (by have := pow2_pos k; unfold pow2 at this; omega)
/-! ### the rounds of shifts with the sign, and of turns -/
theorem wn (a : Int) : (wrap a).toNat < 2 ^ 32 := by have := wrap_bd a; omega
theorem ror_round (A k : Nat) (hk : k < 32) : (rorN A k : Int) / 2 + (rorN A k : Int) % 2 * 2147483648 = (rorN A (k + 1) : Int) := by
  rw [← rorN_step A k hk]; omega
theorem sar_round (A k : Nat) (hA : A < 2 ^ 32) (hk : k < 32) : (sarN A k : Int) / 2 + (sarN A k : Int) / 2147483648 * 2147483648 = (sarN A (k + 1) : Int) := by
  rw [← sarN_step A k hA hk]; omega
theorem bit31 (a : Int) : bit a 31 = ((wrap a).toNat / 2 ^ 31 : Nat) := by
  have h := wn a
  have := bit_nat a 31 (by decide)
  rw [Nat.toNat_testBit] at this
  have e : ((31 : Nat) : Int) = 31 := rfl
  rw [e] at this
  rw [this]; congr 1; omega
theorem shr_nat (a n : Int) : shr a n = ((wrap a).toNat / 2 ^ cnt n : Nat) := by
  have h := wrap_bd a
  unfold shr
  obtain ⟨A, hA⟩ := Int.eq_ofNat_of_zero_le h.1
  rw [hA, pow_cast]; push_cast; rfl
theorem sarW_round (a : Int) (k i : Nat) (hk : k < 32) (hi : i < k) : bits .or .i64 (sarW (wrap a).toNat k i : Int) (wrap64 (bit a 31 * 2 ^ (31 - i))) = (sarW (wrap a).toNat k (i + 1) : Int) := by
  have h := wn a
  have hb := bit_bd a 31
  rw [bit31] at hb ⊢
  have hp : (2 : Nat) ^ (31 - i) ≤ 2 ^ 31 := Nat.pow_le_pow_right (by decide) (by omega)
  rw [← sarW_step _ k i h hk hi, pow_cast, ← Int.natCast_mul]
  have hm : (wrap a).toNat / 2 ^ 31 * 2 ^ (31 - i) ≤ 1 * 2 ^ 31 := Nat.mul_le_mul (by omega) hp
  rw [wrap64_in _ (by omega) (by omega), or_nat _ _ (sarW_lt _ k i h (by omega) (by omega)) (by omega)]
end Go.Proofs.Ytplfpaffjaldoaa.Wd
end
section
namespace Go.Proofs.Ytplfpaffjaldoaa.Th
open Go.RowKit

structure Ins where
  op : Int
  rd : Int
  rn : Int
  rm : Int
  ra : Int
  imm : Int
  cond : Int
  wide : Bool

theorem Ins.ext' {i k : Ins} (h0 : i.op = k.op) (h1 : i.rd = k.rd) (h2 : i.rn = k.rn) (h3 : i.rm = k.rm) (h4 : i.ra = k.ra) (h5 : i.imm = k.imm) (h6 : i.cond = k.cond) (h7 : i.wide = k.wide) : i = k := by
  cases i; cases k; simp_all

/-! ### the program's own functions, as it writes them -/
def reachLo (op : Int) (wide : Bool) : Int := if op == 24 then (if wide then -16777216 else -2048) else if op == 25 then (if wide then -1048576 else -256) else 0
def reachHi (op : Int) (wide : Bool) : Int := if op == 24 then (if wide then 16777214 else 2046) else if op == 25 then (if wide then 1048574 else 254) else 0
def branch (op : Int) : Bool := op == 24 || op == 25
def reaches (op imm : Int) (wide : Bool) : Bool := decide (reachLo op wide ≤ imm) && decide (imm ≤ reachHi op wide) && imm % 2 == 0
def none0 : Ins := ⟨0, 0, 0, 0, 0, 0, 0, false⟩
def most (op imm : Int) : Ins :=
  if op == 1 then none0
  else if op == 2 then { none0 with imm := 255 }
  else if op == 3 || op == 4 then { none0 with rd := 12, imm := 65535 }
  else if op == 5 || op == 6 || op == 7 || op == 8 then { none0 with rd := 12, rm := 12, imm := 31 }
  else if op == 9 then { none0 with rd := 12, rm := 12 }
  else if op == 10 || op == 11 || op == 12 || op == 13 || op == 14 || op == 15 || op == 16 then { none0 with rd := 12, rn := 12, rm := 12 }
  else if op == 17 then { none0 with rd := 12, rn := 12, rm := 12, ra := 12 }
  else if op == 18 then { none0 with rd := 12, rn := 12, ra := wrap64 (32 - imm), imm := 31 }
  else if op == 19 || op == 20 || op == 21 || op == 22 then { none0 with rd := 7, rn := 7 }
  else if op == 23 then { none0 with rn := 7, rm := 7 }
  else if op == 24 then { none0 with imm := imm, wide := true }
  else if op == 25 then { none0 with imm := imm, cond := 13, wide := true }
  else none0
def known (op rd ra : Int) : Bool := if op == 17 then ra != rd else op == 1 || op == 2 || op == 3 || op == 4 || op == 5 || op == 6 || op == 7 || op == 8 || op == 9 || op == 10 || op == 11 || op == 12 || op == 13 || op == 14 || op == 15 || op == 16 || op == 18 || op == 19 || op == 20 || op == 21 || op == 22 || op == 23 || op == 24 || op == 25
def least (op imm : Int) : Ins :=
  if op == 6 || op == 7 || op == 8 then { none0 with imm := 1 }
  else if op == 18 then { none0 with ra := 1 }
  else if op == 24 || op == 25 then { none0 with imm := imm }
  else none0
def within (l i h : Ins) : Bool :=
  decide (l.rd ≤ i.rd) && decide (i.rd ≤ h.rd) && decide (l.rn ≤ i.rn) && decide (i.rn ≤ h.rn) && decide (l.rm ≤ i.rm) && decide (i.rm ≤ h.rm) &&
  decide (l.ra ≤ i.ra) && decide (i.ra ≤ h.ra) && decide (l.imm ≤ i.imm) && decide (i.imm ≤ h.imm) && decide (l.cond ≤ i.cond) && decide (i.cond ≤ h.cond) && (h.wide || !i.wide)
def fits (i : Ins) : Bool := known i.op i.rd i.ra && within (least i.op i.imm) i (most i.op i.imm)
def check (i : Ins) : Int := if fits i then (if branch i.op && !reaches i.op i.imm i.wide then 6 else 0) else 2
def short (op : Int) : Bool := op == 1 || op == 2 || op == 19 || op == 20 || op == 21 || op == 22 || op == 23
def size (i : Ins) : Int := if check i == 0 then (if short i.op then 2 else if branch i.op && !i.wide then 2 else 4) else 0
end Go.Proofs.Ytplfpaffjaldoaa.Th
end
section
namespace Go.Proofs.Ytplfpaffjaldoaa.Th
open Go.RowKit

/-- bits of a number that stand together: so many, from one of the number's bits on, to one of the instruction's bits on -/
structure Fld where
  num : Int
  cnt : Nat
  frm : Nat
  to : Nat
def fval (f : Fld) : Nat := f.num.toNat / 2 ^ f.frm % 2 ^ f.cnt
def orStep (n : Nat) (f : Fld) : Nat := n ||| fval f * 2 ^ f.to
def put (n : Nat) (L : List Fld) : Nat := L.foldl orStep n
def okFld (f : Fld) : Prop := 0 ≤ f.num ∧ f.num < 4294967296 ∧ f.cnt ≤ 16 ∧ f.frm ≤ 31 ∧ f.to ≤ 31 ∧ f.cnt + f.to ≤ 32

theorem and_mask (x c : Nat) (hx : x < 4294967296) (hc : c ≤ 16) : bits .and .i64 (x : Int) (wrap64 (wrap64 (2 ^ c) - 1)) = ((x % 2 ^ c : Nat) : Int) := by
  have hp : (2 : Nat) ^ c ≤ 2 ^ 16 := Nat.pow_le_pow_right (by decide) hc
  have hq := Nat.two_pow_pos c
  have e : wrap64 (wrap64 (2 ^ c) - 1) = ((2 ^ c - 1 : Nat) : Int) := by
    rw [Wd.pow_cast, Wd.wrap64_in ((2 ^ c : Nat) : Int) (by omega) (by omega), Wd.wrap64_in _ (by omega) (by omega)]; omega
  rw [e]
  show IntKind.i64.wrap ((BitVec.ofInt 64 (x : Int) &&& BitVec.ofInt 64 ((2 ^ c - 1 : Nat) : Int)).toNat : Int) = _
  rw [BitVec.toNat_and, Wd.ofInt_toNat, Wd.ofInt_toNat]
  have e1 : ((x : Int) % 18446744073709551616).toNat = x := by omega
  have e2 : (((2 ^ c - 1 : Nat) : Int) % 18446744073709551616).toNat = 2 ^ c - 1 := by omega
  have hm := Nat.mod_le x (2 ^ c)
  rw [e1, e2, Nat.and_two_pow_sub_one_eq_mod, Wd.i64_small _ (by omega)]
theorem fval_lt (f : Fld) (h : okFld f) : fval f * 2 ^ f.to < 4294967296 := by
  obtain ⟨_, _, hc, _, ht, hs⟩ := h
  have h1 : fval f < 2 ^ f.cnt := Nat.mod_lt _ (Nat.two_pow_pos _)
  have h2 : fval f * 2 ^ f.to < 2 ^ f.cnt * 2 ^ f.to := Nat.mul_lt_mul_of_pos_right h1 (Nat.two_pow_pos _)
  have h3 : 2 ^ f.cnt * 2 ^ f.to ≤ 2 ^ 32 := by rw [← Nat.pow_add]; exact Nat.pow_le_pow_right (by decide) hs
  omega
theorem orStep_lt (n : Nat) (f : Fld) (hn : n < 4294967296) (h : okFld f) : orStep n f < 4294967296 := by
  have := fval_lt f h
  exact Nat.or_lt_two_pow (n := 32) hn this
theorem or_step (n : Nat) (f : Fld) (hn : n < 4294967296) (h : okFld f) :
    bits .or .i64 (n : Int) (wrap64 (bits .and .i64 (f.num / 2 ^ f.frm) (wrap64 (wrap64 (2 ^ f.cnt) - 1)) * 2 ^ f.to)) = ((orStep n f : Nat) : Int) := by
  have hv := fval_lt f h
  obtain ⟨h0, h1, hc, hf, ht, hs⟩ := h
  obtain ⟨x, hx⟩ := Int.eq_ofNat_of_zero_le h0
  have hlt : x / 2 ^ f.frm < 4294967296 := by have := Nat.div_le_self x (2 ^ f.frm); omega
  have e1 : f.num / 2 ^ f.frm = ((x / 2 ^ f.frm : Nat) : Int) := by rw [hx, Wd.pow_cast]; rfl
  rw [e1, and_mask _ _ hlt hc]
  have e2 : ((x / 2 ^ f.frm % 2 ^ f.cnt : Nat) : Int) * 2 ^ f.to = ((fval f * 2 ^ f.to : Nat) : Int) := by
    rw [Wd.pow_cast, ← Int.natCast_mul]; unfold fval; rw [hx]; rfl
  rw [e2, Wd.wrap64_in _ (by omega) (by omega), Wd.or_nat _ _ hn hv]
  rfl
theorem put_lt (L : List Fld) : ∀ n, n < 4294967296 → (∀ f ∈ L, okFld f) → put n L < 4294967296 := by
  induction L with
  | nil => intro n hn _; exact hn
  | cons f L ih => intro n hn h; exact ih _ (orStep_lt n f hn (h f (by simp))) (fun g hg => h g (by simp [hg]))
theorem put_cons (n : Nat) (f : Fld) (L : List Fld) : put n (f :: L) = put (orStep n f) L := rfl
/-- bytes of 16 bits, and of 32 -/
def str2 (n : Nat) : ByteArray := strOfNums [(n : Int) % 256, (n : Int) / 256]
def str4 (n : Nat) : ByteArray := strOfNums [(n : Int) / 65536 % 256, (n : Int) / 16777216, (n : Int) % 256, (n : Int) / 256 % 256]
end Go.Proofs.Ytplfpaffjaldoaa.Th
end
section
namespace Go.Proofs.Ytplfpaffjaldoaa.Th
open Go.RowKit

theorem check_ok (i : Ins) : check i = 0 ↔ fits i = true ∧ (branch i.op = true → reaches i.op i.imm i.wide = true) := by
  unfold check
  cases fits i <;> cases branch i.op <;> cases reaches i.op i.imm i.wide <;> simp
theorem known_op {op rd ra : Int} (h : known op rd ra = true) : 1 ≤ op ∧ op ≤ 25 := by
  unfold known at h
  by_cases h17 : op = 17
  · omega
  · simp [h17] at h; omega
theorem ok1 (rd rn rm ra imm cond : Int) (wide : Bool) : check ⟨1, rd, rn, rm, ra, imm, cond, wide⟩ = 0 ↔ (rd = 0) ∧ (rn = 0) ∧ (rm = 0) ∧ (ra = 0) ∧ (imm = 0) ∧ (cond = 0) ∧ (wide = false) := by
  rw [check_ok]
  simp [fits, known, within, most, least, none0, branch, reaches, reachLo, reachHi]
  cases wide <;> simp <;> omega
theorem ok2 (rd rn rm ra imm cond : Int) (wide : Bool) : check ⟨2, rd, rn, rm, ra, imm, cond, wide⟩ = 0 ↔ (rd = 0) ∧ (rn = 0) ∧ (rm = 0) ∧ (ra = 0) ∧ (0 ≤ imm ∧ imm ≤ 255) ∧ (cond = 0) ∧ (wide = false) := by
  rw [check_ok]
  simp [fits, known, within, most, least, none0, branch, reaches, reachLo, reachHi]
  cases wide <;> simp <;> omega
theorem ok3 (rd rn rm ra imm cond : Int) (wide : Bool) : check ⟨3, rd, rn, rm, ra, imm, cond, wide⟩ = 0 ↔ (0 ≤ rd ∧ rd ≤ 12) ∧ (rn = 0) ∧ (rm = 0) ∧ (ra = 0) ∧ (0 ≤ imm ∧ imm ≤ 65535) ∧ (cond = 0) ∧ (wide = false) := by
  rw [check_ok]
  simp [fits, known, within, most, least, none0, branch, reaches, reachLo, reachHi]
  cases wide <;> simp <;> omega
theorem ok4 (rd rn rm ra imm cond : Int) (wide : Bool) : check ⟨4, rd, rn, rm, ra, imm, cond, wide⟩ = 0 ↔ (0 ≤ rd ∧ rd ≤ 12) ∧ (rn = 0) ∧ (rm = 0) ∧ (ra = 0) ∧ (0 ≤ imm ∧ imm ≤ 65535) ∧ (cond = 0) ∧ (wide = false) := by
  rw [check_ok]
  simp [fits, known, within, most, least, none0, branch, reaches, reachLo, reachHi]
  cases wide <;> simp <;> omega
theorem ok5 (rd rn rm ra imm cond : Int) (wide : Bool) : check ⟨5, rd, rn, rm, ra, imm, cond, wide⟩ = 0 ↔ (0 ≤ rd ∧ rd ≤ 12) ∧ (rn = 0) ∧ (0 ≤ rm ∧ rm ≤ 12) ∧ (ra = 0) ∧ (0 ≤ imm ∧ imm ≤ 31) ∧ (cond = 0) ∧ (wide = false) := by
  rw [check_ok]
  simp [fits, known, within, most, least, none0, branch, reaches, reachLo, reachHi]
  cases wide <;> simp <;> omega
theorem ok6 (rd rn rm ra imm cond : Int) (wide : Bool) : check ⟨6, rd, rn, rm, ra, imm, cond, wide⟩ = 0 ↔ (0 ≤ rd ∧ rd ≤ 12) ∧ (rn = 0) ∧ (0 ≤ rm ∧ rm ≤ 12) ∧ (ra = 0) ∧ (1 ≤ imm ∧ imm ≤ 31) ∧ (cond = 0) ∧ (wide = false) := by
  rw [check_ok]
  simp [fits, known, within, most, least, none0, branch, reaches, reachLo, reachHi]
  cases wide <;> simp <;> omega
theorem ok7 (rd rn rm ra imm cond : Int) (wide : Bool) : check ⟨7, rd, rn, rm, ra, imm, cond, wide⟩ = 0 ↔ (0 ≤ rd ∧ rd ≤ 12) ∧ (rn = 0) ∧ (0 ≤ rm ∧ rm ≤ 12) ∧ (ra = 0) ∧ (1 ≤ imm ∧ imm ≤ 31) ∧ (cond = 0) ∧ (wide = false) := by
  rw [check_ok]
  simp [fits, known, within, most, least, none0, branch, reaches, reachLo, reachHi]
  cases wide <;> simp <;> omega
theorem ok8 (rd rn rm ra imm cond : Int) (wide : Bool) : check ⟨8, rd, rn, rm, ra, imm, cond, wide⟩ = 0 ↔ (0 ≤ rd ∧ rd ≤ 12) ∧ (rn = 0) ∧ (0 ≤ rm ∧ rm ≤ 12) ∧ (ra = 0) ∧ (1 ≤ imm ∧ imm ≤ 31) ∧ (cond = 0) ∧ (wide = false) := by
  rw [check_ok]
  simp [fits, known, within, most, least, none0, branch, reaches, reachLo, reachHi]
  cases wide <;> simp <;> omega
theorem ok9 (rd rn rm ra imm cond : Int) (wide : Bool) : check ⟨9, rd, rn, rm, ra, imm, cond, wide⟩ = 0 ↔ (0 ≤ rd ∧ rd ≤ 12) ∧ (rn = 0) ∧ (0 ≤ rm ∧ rm ≤ 12) ∧ (ra = 0) ∧ (imm = 0) ∧ (cond = 0) ∧ (wide = false) := by
  rw [check_ok]
  simp [fits, known, within, most, least, none0, branch, reaches, reachLo, reachHi]
  cases wide <;> simp <;> omega
theorem ok10 (rd rn rm ra imm cond : Int) (wide : Bool) : check ⟨10, rd, rn, rm, ra, imm, cond, wide⟩ = 0 ↔ (0 ≤ rd ∧ rd ≤ 12) ∧ (0 ≤ rn ∧ rn ≤ 12) ∧ (0 ≤ rm ∧ rm ≤ 12) ∧ (ra = 0) ∧ (imm = 0) ∧ (cond = 0) ∧ (wide = false) := by
  rw [check_ok]
  simp [fits, known, within, most, least, none0, branch, reaches, reachLo, reachHi]
  cases wide <;> simp <;> omega
theorem ok11 (rd rn rm ra imm cond : Int) (wide : Bool) : check ⟨11, rd, rn, rm, ra, imm, cond, wide⟩ = 0 ↔ (0 ≤ rd ∧ rd ≤ 12) ∧ (0 ≤ rn ∧ rn ≤ 12) ∧ (0 ≤ rm ∧ rm ≤ 12) ∧ (ra = 0) ∧ (imm = 0) ∧ (cond = 0) ∧ (wide = false) := by
  rw [check_ok]
  simp [fits, known, within, most, least, none0, branch, reaches, reachLo, reachHi]
  cases wide <;> simp <;> omega
theorem ok12 (rd rn rm ra imm cond : Int) (wide : Bool) : check ⟨12, rd, rn, rm, ra, imm, cond, wide⟩ = 0 ↔ (0 ≤ rd ∧ rd ≤ 12) ∧ (0 ≤ rn ∧ rn ≤ 12) ∧ (0 ≤ rm ∧ rm ≤ 12) ∧ (ra = 0) ∧ (imm = 0) ∧ (cond = 0) ∧ (wide = false) := by
  rw [check_ok]
  simp [fits, known, within, most, least, none0, branch, reaches, reachLo, reachHi]
  cases wide <;> simp <;> omega
theorem ok13 (rd rn rm ra imm cond : Int) (wide : Bool) : check ⟨13, rd, rn, rm, ra, imm, cond, wide⟩ = 0 ↔ (0 ≤ rd ∧ rd ≤ 12) ∧ (0 ≤ rn ∧ rn ≤ 12) ∧ (0 ≤ rm ∧ rm ≤ 12) ∧ (ra = 0) ∧ (imm = 0) ∧ (cond = 0) ∧ (wide = false) := by
  rw [check_ok]
  simp [fits, known, within, most, least, none0, branch, reaches, reachLo, reachHi]
  cases wide <;> simp <;> omega
theorem ok14 (rd rn rm ra imm cond : Int) (wide : Bool) : check ⟨14, rd, rn, rm, ra, imm, cond, wide⟩ = 0 ↔ (0 ≤ rd ∧ rd ≤ 12) ∧ (0 ≤ rn ∧ rn ≤ 12) ∧ (0 ≤ rm ∧ rm ≤ 12) ∧ (ra = 0) ∧ (imm = 0) ∧ (cond = 0) ∧ (wide = false) := by
  rw [check_ok]
  simp [fits, known, within, most, least, none0, branch, reaches, reachLo, reachHi]
  cases wide <;> simp <;> omega
theorem ok15 (rd rn rm ra imm cond : Int) (wide : Bool) : check ⟨15, rd, rn, rm, ra, imm, cond, wide⟩ = 0 ↔ (0 ≤ rd ∧ rd ≤ 12) ∧ (0 ≤ rn ∧ rn ≤ 12) ∧ (0 ≤ rm ∧ rm ≤ 12) ∧ (ra = 0) ∧ (imm = 0) ∧ (cond = 0) ∧ (wide = false) := by
  rw [check_ok]
  simp [fits, known, within, most, least, none0, branch, reaches, reachLo, reachHi]
  cases wide <;> simp <;> omega
theorem ok16 (rd rn rm ra imm cond : Int) (wide : Bool) : check ⟨16, rd, rn, rm, ra, imm, cond, wide⟩ = 0 ↔ (0 ≤ rd ∧ rd ≤ 12) ∧ (0 ≤ rn ∧ rn ≤ 12) ∧ (0 ≤ rm ∧ rm ≤ 12) ∧ (ra = 0) ∧ (imm = 0) ∧ (cond = 0) ∧ (wide = false) := by
  rw [check_ok]
  simp [fits, known, within, most, least, none0, branch, reaches, reachLo, reachHi]
  cases wide <;> simp <;> omega
theorem ok17 (rd rn rm ra imm cond : Int) (wide : Bool) : check ⟨17, rd, rn, rm, ra, imm, cond, wide⟩ = 0 ↔ (0 ≤ rd ∧ rd ≤ 12) ∧ (0 ≤ rn ∧ rn ≤ 12) ∧ (0 ≤ rm ∧ rm ≤ 12) ∧ (0 ≤ ra ∧ ra ≤ 12 ∧ ra ≠ rd) ∧ (imm = 0) ∧ (cond = 0) ∧ (wide = false) := by
  rw [check_ok]
  simp [fits, known, within, most, least, none0, branch, reaches, reachLo, reachHi]
  cases wide <;> simp <;> omega
theorem ok18 (rd rn rm ra imm cond : Int) (wide : Bool) : check ⟨18, rd, rn, rm, ra, imm, cond, wide⟩ = 0 ↔ (0 ≤ rd ∧ rd ≤ 12) ∧ (0 ≤ rn ∧ rn ≤ 12) ∧ (rm = 0) ∧ (1 ≤ ra ∧ ra ≤ 32 - imm) ∧ (0 ≤ imm ∧ imm ≤ 31) ∧ (cond = 0) ∧ (wide = false) := by
  rw [check_ok]
  simp [fits, known, within, most, least, none0, branch, reaches, reachLo, reachHi]
  cases wide <;> simp
  by_cases hi : 0 ≤ imm ∧ imm ≤ 31
  · rw [Wd.wrap64_in _ (by omega) (by omega)]; omega
  · omega
theorem ok19 (rd rn rm ra imm cond : Int) (wide : Bool) : check ⟨19, rd, rn, rm, ra, imm, cond, wide⟩ = 0 ↔ (0 ≤ rd ∧ rd ≤ 7) ∧ (0 ≤ rn ∧ rn ≤ 7) ∧ (rm = 0) ∧ (ra = 0) ∧ (imm = 0) ∧ (cond = 0) ∧ (wide = false) := by
  rw [check_ok]
  simp [fits, known, within, most, least, none0, branch, reaches, reachLo, reachHi]
  cases wide <;> simp <;> omega
theorem ok20 (rd rn rm ra imm cond : Int) (wide : Bool) : check ⟨20, rd, rn, rm, ra, imm, cond, wide⟩ = 0 ↔ (0 ≤ rd ∧ rd ≤ 7) ∧ (0 ≤ rn ∧ rn ≤ 7) ∧ (rm = 0) ∧ (ra = 0) ∧ (imm = 0) ∧ (cond = 0) ∧ (wide = false) := by
  rw [check_ok]
  simp [fits, known, within, most, least, none0, branch, reaches, reachLo, reachHi]
  cases wide <;> simp <;> omega
theorem ok21 (rd rn rm ra imm cond : Int) (wide : Bool) : check ⟨21, rd, rn, rm, ra, imm, cond, wide⟩ = 0 ↔ (0 ≤ rd ∧ rd ≤ 7) ∧ (0 ≤ rn ∧ rn ≤ 7) ∧ (rm = 0) ∧ (ra = 0) ∧ (imm = 0) ∧ (cond = 0) ∧ (wide = false) := by
  rw [check_ok]
  simp [fits, known, within, most, least, none0, branch, reaches, reachLo, reachHi]
  cases wide <;> simp <;> omega
theorem ok22 (rd rn rm ra imm cond : Int) (wide : Bool) : check ⟨22, rd, rn, rm, ra, imm, cond, wide⟩ = 0 ↔ (0 ≤ rd ∧ rd ≤ 7) ∧ (0 ≤ rn ∧ rn ≤ 7) ∧ (rm = 0) ∧ (ra = 0) ∧ (imm = 0) ∧ (cond = 0) ∧ (wide = false) := by
  rw [check_ok]
  simp [fits, known, within, most, least, none0, branch, reaches, reachLo, reachHi]
  cases wide <;> simp <;> omega
theorem ok23 (rd rn rm ra imm cond : Int) (wide : Bool) : check ⟨23, rd, rn, rm, ra, imm, cond, wide⟩ = 0 ↔ (rd = 0) ∧ (0 ≤ rn ∧ rn ≤ 7) ∧ (0 ≤ rm ∧ rm ≤ 7) ∧ (ra = 0) ∧ (imm = 0) ∧ (cond = 0) ∧ (wide = false) := by
  rw [check_ok]
  simp [fits, known, within, most, least, none0, branch, reaches, reachLo, reachHi]
  cases wide <;> simp <;> omega
theorem ok24 (rd rn rm ra imm cond : Int) (wide : Bool) : check ⟨24, rd, rn, rm, ra, imm, cond, wide⟩ = 0 ↔ (rd = 0) ∧ (rn = 0) ∧ (rm = 0) ∧ (ra = 0) ∧ (imm % 2 = 0 ∧ (wide = true → -16777216 ≤ imm ∧ imm ≤ 16777214) ∧ (wide = false → -2048 ≤ imm ∧ imm ≤ 2046)) ∧ (cond = 0) ∧ (True) := by
  rw [check_ok]
  simp [fits, known, within, most, least, none0, branch, reaches, reachLo, reachHi]
  cases wide <;> simp <;> omega
theorem ok25 (rd rn rm ra imm cond : Int) (wide : Bool) : check ⟨25, rd, rn, rm, ra, imm, cond, wide⟩ = 0 ↔ (rd = 0) ∧ (rn = 0) ∧ (rm = 0) ∧ (ra = 0) ∧ (imm % 2 = 0 ∧ (wide = true → -1048576 ≤ imm ∧ imm ≤ 1048574) ∧ (wide = false → -256 ≤ imm ∧ imm ≤ 254)) ∧ (0 ≤ cond ∧ cond ≤ 13) ∧ (True) := by
  rw [check_ok]
  simp [fits, known, within, most, least, none0, branch, reaches, reachLo, reachHi]
  cases wide <;> simp <;> omega
end Go.Proofs.Ytplfpaffjaldoaa.Th
end
section
namespace Go.Proofs.Ytplfpaffjaldoaa.Th
open Go.RowKit

def off (imm : Int) : Int := if imm < 0 then imm + 33554432 else imm
def alike (n : Int) (a b : Nat) : Int := if n / 2 ^ a % 2 = n / 2 ^ b % 2 then 1 else 0
def fixed (op : Int) (wide : Bool) : Nat :=
  if op == 1 then 48896 else
  if op == 2 then 48640 else
  if op == 3 then 4064280576 else
  if op == 4 then 4072669184 else
  if op == 5 then 3931045888 else
  if op == 6 then 3931045904 else
  if op == 7 then 3931045920 else
  if op == 8 then 3931045936 else
  if op == 9 then 3933143040 else
  if op == 10 then 3925868544 else
  if op == 11 then 3927965696 else
  if op == 12 then 3930062848 else
  if op == 13 then 3934257152 else
  if op == 14 then 3942645760 else
  if op == 15 then 3953131520 else
  if op == 16 then 4211142656 else
  if op == 17 then 4221566976 else
  if op == 18 then 4083154944 else
  if op == 19 then 26624 else
  if op == 20 then 24576 else
  if op == 21 then 30720 else
  if op == 22 then 28672 else
  if op == 23 then 17024 else
  if op == 24 then (if wide then 4026568704 else 57344) else
  if op == 25 then (if wide then 4026564608 else 53248) else
  0
def fields (i : Ins) : List Fld :=
  if i.op == 2 then [⟨i.imm, 8, 0, 0⟩] else
  if i.op == 3 || i.op == 4 then [⟨i.imm, 1, 11, 26⟩, ⟨i.imm, 4, 12, 16⟩, ⟨i.imm, 3, 8, 12⟩, ⟨i.rd, 4, 0, 8⟩, ⟨i.imm, 8, 0, 0⟩] else
  if i.op == 5 || i.op == 6 || i.op == 7 || i.op == 8 then [⟨i.imm, 3, 2, 12⟩, ⟨i.rd, 4, 0, 8⟩, ⟨i.imm, 2, 0, 6⟩, ⟨i.rm, 4, 0, 0⟩] else
  if i.op == 9 then [⟨i.rd, 4, 0, 8⟩, ⟨i.rm, 4, 0, 0⟩] else
  if i.op == 10 || i.op == 11 || i.op == 12 || i.op == 13 || i.op == 14 || i.op == 15 || i.op == 16 then [⟨i.rn, 4, 0, 16⟩, ⟨i.rd, 4, 0, 8⟩, ⟨i.rm, 4, 0, 0⟩] else
  if i.op == 17 then [⟨i.rn, 4, 0, 16⟩, ⟨i.rd, 4, 0, 12⟩, ⟨i.ra, 4, 0, 8⟩, ⟨i.rm, 4, 0, 0⟩] else
  if i.op == 18 then [⟨i.rn, 4, 0, 16⟩, ⟨i.imm, 3, 2, 12⟩, ⟨i.rd, 4, 0, 8⟩, ⟨i.imm, 2, 0, 6⟩, ⟨(i.imm + i.ra - 1), 5, 0, 0⟩] else
  if i.op == 19 || i.op == 20 || i.op == 21 || i.op == 22 then [⟨i.rn, 3, 0, 3⟩, ⟨i.rd, 3, 0, 0⟩] else
  if i.op == 23 then [⟨i.rm, 3, 0, 3⟩, ⟨i.rn, 3, 0, 0⟩] else
  if i.op == 24 then (if i.wide then [⟨(off i.imm), 1, 24, 26⟩, ⟨(off i.imm), 10, 12, 16⟩, ⟨(alike (off i.imm) 23 24), 1, 0, 13⟩, ⟨(alike (off i.imm) 22 24), 1, 0, 11⟩, ⟨(off i.imm), 11, 1, 0⟩] else [⟨(off i.imm), 11, 1, 0⟩]) else
  if i.op == 25 then (if i.wide then [⟨(off i.imm), 1, 20, 26⟩, ⟨i.cond, 4, 0, 22⟩, ⟨(off i.imm), 6, 12, 16⟩, ⟨(off i.imm), 1, 18, 13⟩, ⟨(off i.imm), 1, 19, 11⟩, ⟨(off i.imm), 11, 1, 0⟩] else [⟨i.cond, 4, 0, 8⟩, ⟨(off i.imm), 8, 1, 0⟩]) else
  []
def num (i : Ins) : Nat := put (fixed i.op i.wide) (fields i)
def encS (i : Ins) : ByteArray := if check i = 0 then (if size i = 2 then str2 (num i) else str4 (num i)) else ⟨#[]⟩
theorem off_bd (imm : Int) (h : -16777216 ≤ imm ∧ imm ≤ 16777214) : 0 ≤ off imm ∧ off imm < 33554432 := by unfold off; split <;> omega
theorem alike_bd (n : Int) (a b : Nat) : 0 ≤ alike n a b ∧ alike n a b ≤ 1 := by unfold alike; split <;> omega
theorem ite_lt {c : Prop} [Decidable c] {a b n : Nat} (h1 : a < n) (h2 : b < n) : (if c then a else b) < n := by split <;> assumption
theorem fixed_lt (op : Int) (wide : Bool) : fixed op wide < 4294967296 := by
  unfold fixed
  repeat' (refine ite_lt ?_ ?_)
  all_goals decide
theorem ite_len {c : Prop} [Decidable c] {a b : List Fld} {n : Nat} (h1 : a.length ≤ n) (h2 : b.length ≤ n) : (if c then a else b).length ≤ n := by split <;> assumption
theorem fields_len (i : Ins) : (fields i).length ≤ 8 := by
  unfold fields
  repeat' (refine ite_len ?_ ?_)
  all_goals simp
theorem op_cases {op : Int} (h : 1 ≤ op ∧ op ≤ 25) : op = 1 ∨ op = 2 ∨ op = 3 ∨ op = 4 ∨ op = 5 ∨ op = 6 ∨ op = 7 ∨ op = 8 ∨ op = 9 ∨ op = 10 ∨ op = 11 ∨ op = 12 ∨ op = 13 ∨ op = 14 ∨ op = 15 ∨ op = 16 ∨ op = 17 ∨ op = 18 ∨ op = 19 ∨ op = 20 ∨ op = 21 ∨ op = 22 ∨ op = 23 ∨ op = 24 ∨ op = 25 := by omega
theorem fields_ok (i : Ins) (h : check i = 0) : ∀ f ∈ fields i, okFld f := by
  obtain ⟨op, rd, rn, rm, ra, imm, cond, wide⟩ := i
  have hk : 1 ≤ op ∧ op ≤ 25 := by
    rw [check_ok] at h
    have := h.1; unfold fits at this; rw [Bool.and_eq_true] at this
    exact known_op this.1
  rcases op_cases hk with rfl | rfl | rfl | rfl | rfl | rfl | rfl | rfl | rfl | rfl | rfl | rfl | rfl | rfl | rfl | rfl | rfl | rfl | rfl | rfl | rfl | rfl | rfl | rfl | rfl
  · rw [ok1] at h
    show ∀ f ∈ ([] : List Fld), okFld f
    simp
  · rw [ok2] at h
    show ∀ f ∈ ([⟨imm, 8, 0, 0⟩] : List Fld), okFld f
    intro f hf
    simp only [List.mem_cons, List.not_mem_nil, or_false] at hf
    rcases hf with rfl
    all_goals (simp only [okFld]; omega)
  · rw [ok3] at h
    show ∀ f ∈ ([⟨imm, 1, 11, 26⟩, ⟨imm, 4, 12, 16⟩, ⟨imm, 3, 8, 12⟩, ⟨rd, 4, 0, 8⟩, ⟨imm, 8, 0, 0⟩] : List Fld), okFld f
    intro f hf
    simp only [List.mem_cons, List.not_mem_nil, or_false] at hf
    rcases hf with rfl | rfl | rfl | rfl | rfl
    all_goals (simp only [okFld]; omega)
  · rw [ok4] at h
    show ∀ f ∈ ([⟨imm, 1, 11, 26⟩, ⟨imm, 4, 12, 16⟩, ⟨imm, 3, 8, 12⟩, ⟨rd, 4, 0, 8⟩, ⟨imm, 8, 0, 0⟩] : List Fld), okFld f
    intro f hf
    simp only [List.mem_cons, List.not_mem_nil, or_false] at hf
    rcases hf with rfl | rfl | rfl | rfl | rfl
    all_goals (simp only [okFld]; omega)
  · rw [ok5] at h
    show ∀ f ∈ ([⟨imm, 3, 2, 12⟩, ⟨rd, 4, 0, 8⟩, ⟨imm, 2, 0, 6⟩, ⟨rm, 4, 0, 0⟩] : List Fld), okFld f
    intro f hf
    simp only [List.mem_cons, List.not_mem_nil, or_false] at hf
    rcases hf with rfl | rfl | rfl | rfl
    all_goals (simp only [okFld]; omega)
  · rw [ok6] at h
    show ∀ f ∈ ([⟨imm, 3, 2, 12⟩, ⟨rd, 4, 0, 8⟩, ⟨imm, 2, 0, 6⟩, ⟨rm, 4, 0, 0⟩] : List Fld), okFld f
    intro f hf
    simp only [List.mem_cons, List.not_mem_nil, or_false] at hf
    rcases hf with rfl | rfl | rfl | rfl
    all_goals (simp only [okFld]; omega)
  · rw [ok7] at h
    show ∀ f ∈ ([⟨imm, 3, 2, 12⟩, ⟨rd, 4, 0, 8⟩, ⟨imm, 2, 0, 6⟩, ⟨rm, 4, 0, 0⟩] : List Fld), okFld f
    intro f hf
    simp only [List.mem_cons, List.not_mem_nil, or_false] at hf
    rcases hf with rfl | rfl | rfl | rfl
    all_goals (simp only [okFld]; omega)
  · rw [ok8] at h
    show ∀ f ∈ ([⟨imm, 3, 2, 12⟩, ⟨rd, 4, 0, 8⟩, ⟨imm, 2, 0, 6⟩, ⟨rm, 4, 0, 0⟩] : List Fld), okFld f
    intro f hf
    simp only [List.mem_cons, List.not_mem_nil, or_false] at hf
    rcases hf with rfl | rfl | rfl | rfl
    all_goals (simp only [okFld]; omega)
  · rw [ok9] at h
    show ∀ f ∈ ([⟨rd, 4, 0, 8⟩, ⟨rm, 4, 0, 0⟩] : List Fld), okFld f
    intro f hf
    simp only [List.mem_cons, List.not_mem_nil, or_false] at hf
    rcases hf with rfl | rfl
    all_goals (simp only [okFld]; omega)
  · rw [ok10] at h
    show ∀ f ∈ ([⟨rn, 4, 0, 16⟩, ⟨rd, 4, 0, 8⟩, ⟨rm, 4, 0, 0⟩] : List Fld), okFld f
    intro f hf
    simp only [List.mem_cons, List.not_mem_nil, or_false] at hf
    rcases hf with rfl | rfl | rfl
    all_goals (simp only [okFld]; omega)
  · rw [ok11] at h
    show ∀ f ∈ ([⟨rn, 4, 0, 16⟩, ⟨rd, 4, 0, 8⟩, ⟨rm, 4, 0, 0⟩] : List Fld), okFld f
    intro f hf
    simp only [List.mem_cons, List.not_mem_nil, or_false] at hf
    rcases hf with rfl | rfl | rfl
    all_goals (simp only [okFld]; omega)
  · rw [ok12] at h
    show ∀ f ∈ ([⟨rn, 4, 0, 16⟩, ⟨rd, 4, 0, 8⟩, ⟨rm, 4, 0, 0⟩] : List Fld), okFld f
    intro f hf
    simp only [List.mem_cons, List.not_mem_nil, or_false] at hf
    rcases hf with rfl | rfl | rfl
    all_goals (simp only [okFld]; omega)
  · rw [ok13] at h
    show ∀ f ∈ ([⟨rn, 4, 0, 16⟩, ⟨rd, 4, 0, 8⟩, ⟨rm, 4, 0, 0⟩] : List Fld), okFld f
    intro f hf
    simp only [List.mem_cons, List.not_mem_nil, or_false] at hf
    rcases hf with rfl | rfl | rfl
    all_goals (simp only [okFld]; omega)
  · rw [ok14] at h
    show ∀ f ∈ ([⟨rn, 4, 0, 16⟩, ⟨rd, 4, 0, 8⟩, ⟨rm, 4, 0, 0⟩] : List Fld), okFld f
    intro f hf
    simp only [List.mem_cons, List.not_mem_nil, or_false] at hf
    rcases hf with rfl | rfl | rfl
    all_goals (simp only [okFld]; omega)
  · rw [ok15] at h
    show ∀ f ∈ ([⟨rn, 4, 0, 16⟩, ⟨rd, 4, 0, 8⟩, ⟨rm, 4, 0, 0⟩] : List Fld), okFld f
    intro f hf
    simp only [List.mem_cons, List.not_mem_nil, or_false] at hf
    rcases hf with rfl | rfl | rfl
    all_goals (simp only [okFld]; omega)
  · rw [ok16] at h
    show ∀ f ∈ ([⟨rn, 4, 0, 16⟩, ⟨rd, 4, 0, 8⟩, ⟨rm, 4, 0, 0⟩] : List Fld), okFld f
    intro f hf
    simp only [List.mem_cons, List.not_mem_nil, or_false] at hf
    rcases hf with rfl | rfl | rfl
    all_goals (simp only [okFld]; omega)
  · rw [ok17] at h
    show ∀ f ∈ ([⟨rn, 4, 0, 16⟩, ⟨rd, 4, 0, 12⟩, ⟨ra, 4, 0, 8⟩, ⟨rm, 4, 0, 0⟩] : List Fld), okFld f
    intro f hf
    simp only [List.mem_cons, List.not_mem_nil, or_false] at hf
    rcases hf with rfl | rfl | rfl | rfl
    all_goals (simp only [okFld]; omega)
  · rw [ok18] at h
    show ∀ f ∈ ([⟨rn, 4, 0, 16⟩, ⟨imm, 3, 2, 12⟩, ⟨rd, 4, 0, 8⟩, ⟨imm, 2, 0, 6⟩, ⟨(imm + ra - 1), 5, 0, 0⟩] : List Fld), okFld f
    intro f hf
    simp only [List.mem_cons, List.not_mem_nil, or_false] at hf
    rcases hf with rfl | rfl | rfl | rfl | rfl
    all_goals (simp only [okFld]; omega)
  · rw [ok19] at h
    show ∀ f ∈ ([⟨rn, 3, 0, 3⟩, ⟨rd, 3, 0, 0⟩] : List Fld), okFld f
    intro f hf
    simp only [List.mem_cons, List.not_mem_nil, or_false] at hf
    rcases hf with rfl | rfl
    all_goals (simp only [okFld]; omega)
  · rw [ok20] at h
    show ∀ f ∈ ([⟨rn, 3, 0, 3⟩, ⟨rd, 3, 0, 0⟩] : List Fld), okFld f
    intro f hf
    simp only [List.mem_cons, List.not_mem_nil, or_false] at hf
    rcases hf with rfl | rfl
    all_goals (simp only [okFld]; omega)
  · rw [ok21] at h
    show ∀ f ∈ ([⟨rn, 3, 0, 3⟩, ⟨rd, 3, 0, 0⟩] : List Fld), okFld f
    intro f hf
    simp only [List.mem_cons, List.not_mem_nil, or_false] at hf
    rcases hf with rfl | rfl
    all_goals (simp only [okFld]; omega)
  · rw [ok22] at h
    show ∀ f ∈ ([⟨rn, 3, 0, 3⟩, ⟨rd, 3, 0, 0⟩] : List Fld), okFld f
    intro f hf
    simp only [List.mem_cons, List.not_mem_nil, or_false] at hf
    rcases hf with rfl | rfl
    all_goals (simp only [okFld]; omega)
  · rw [ok23] at h
    show ∀ f ∈ ([⟨rm, 3, 0, 3⟩, ⟨rn, 3, 0, 0⟩] : List Fld), okFld f
    intro f hf
    simp only [List.mem_cons, List.not_mem_nil, or_false] at hf
    rcases hf with rfl | rfl
    all_goals (simp only [okFld]; omega)
  · rw [ok24] at h
    have ho := off_bd imm (by cases wide <;> simp at h <;> omega)
    have h1 := alike_bd (off imm) 23 24
    have h2 := alike_bd (off imm) 22 24
    cases wide
    · show ∀ f ∈ ([⟨(off imm), 11, 1, 0⟩] : List Fld), okFld f
      intro f hf
      simp only [List.mem_cons, List.not_mem_nil, or_false] at hf
      rcases hf with rfl
      all_goals (simp only [okFld]; omega)
    · show ∀ f ∈ ([⟨(off imm), 1, 24, 26⟩, ⟨(off imm), 10, 12, 16⟩, ⟨(alike (off imm) 23 24), 1, 0, 13⟩, ⟨(alike (off imm) 22 24), 1, 0, 11⟩, ⟨(off imm), 11, 1, 0⟩] : List Fld), okFld f
      intro f hf
      simp only [List.mem_cons, List.not_mem_nil, or_false] at hf
      rcases hf with rfl | rfl | rfl | rfl | rfl
      all_goals (simp only [okFld]; omega)
  · rw [ok25] at h
    have ho := off_bd imm (by cases wide <;> simp at h <;> omega)
    have h1 := alike_bd (off imm) 23 24
    have h2 := alike_bd (off imm) 22 24
    cases wide
    · show ∀ f ∈ ([⟨cond, 4, 0, 8⟩, ⟨(off imm), 8, 1, 0⟩] : List Fld), okFld f
      intro f hf
      simp only [List.mem_cons, List.not_mem_nil, or_false] at hf
      rcases hf with rfl | rfl
      all_goals (simp only [okFld]; omega)
    · show ∀ f ∈ ([⟨(off imm), 1, 20, 26⟩, ⟨cond, 4, 0, 22⟩, ⟨(off imm), 6, 12, 16⟩, ⟨(off imm), 1, 18, 13⟩, ⟨(off imm), 1, 19, 11⟩, ⟨(off imm), 11, 1, 0⟩] : List Fld), okFld f
      intro f hf
      simp only [List.mem_cons, List.not_mem_nil, or_false] at hf
      rcases hf with rfl | rfl | rfl | rfl | rfl | rfl
      all_goals (simp only [okFld]; omega)
end Go.Proofs.Ytplfpaffjaldoaa.Th
end
section
namespace Go.Proofs.Ytplfpaffjaldoaa.Th
open Go.RowKit

theorem or_add (n v t c : Nat) (hv : v < 2 ^ c) (h : n / 2 ^ t % 2 ^ c = 0) : n ||| v * 2 ^ t = n + v * 2 ^ t := by
  have h1 := Nat.div_add_mod n (2 ^ t)
  have h2 := Nat.div_add_mod (n / 2 ^ t) (2 ^ c)
  rw [h, Nat.add_zero] at h2
  have hl : n % 2 ^ t < 2 ^ t := Nat.mod_lt _ (Nat.two_pow_pos t)
  generalize n / 2 ^ t / 2 ^ c = a at *
  generalize n % 2 ^ t = l at *
  rw [← h2, ← Nat.mul_assoc, ← Nat.pow_add] at h1
  rw [← h1]
  have hvl : 2 ^ t * v + l < 2 ^ (t + c) := by
    rw [Nat.pow_add]
    have : 2 ^ t * (v + 1) ≤ 2 ^ t * 2 ^ c := Nat.mul_le_mul_left _ hv
    rw [Nat.mul_add, Nat.mul_one] at this
    omega
  have hl2 : l < 2 ^ (t + c) := by have : 0 ≤ 2 ^ t * v := Nat.zero_le _; omega
  rw [Nat.two_pow_add_eq_or_of_lt hl2, Nat.or_assoc, Nat.mul_comm v, Nat.or_comm l, ← Nat.two_pow_add_eq_or_of_lt hl, ← Nat.two_pow_add_eq_or_of_lt hvl]
  rw [← Nat.two_pow_add_eq_or_of_lt hl2]
  omega
/-- a field's value: the bits of x from those of weight r on, below q -/
def fv (x : Int) (r q : Nat) : Nat := x.toNat / r % q
theorem fv_lt (x : Int) (r q : Nat) (h : 0 < q) : fv x r q < q := Nat.mod_lt _ h
theorem put_nil' (n : Nat) : put n [] = n := rfl
theorem st (n : Nat) (x : Int) (c f t p q r : Nat) (hp : 2 ^ t = p) (hq : 2 ^ c = q) (hr : 2 ^ f = r) (h : n / p % q = 0) : orStep n ⟨x, c, f, t⟩ = n + fv x r q * p := by
  subst hp; subst hq; subst hr
  exact or_add n _ t c (Nat.mod_lt _ (Nat.two_pow_pos c)) h
theorem num1 (rd rn rm ra imm cond : Int) (wide : Bool) : num ⟨1, rd, rn, rm, ra, imm, cond, wide⟩ = 48896 := by
  rfl
theorem size1 (rd rn rm ra imm cond : Int) (wide : Bool) (h : check ⟨1, rd, rn, rm, ra, imm, cond, wide⟩ = 0) : size ⟨1, rd, rn, rm, ra, imm, cond, wide⟩ = 2 := by
  unfold size; rw [h]; rfl
theorem num2 (rd rn rm ra imm cond : Int) (wide : Bool) : num ⟨2, rd, rn, rm, ra, imm, cond, wide⟩ = 48640 + fv imm 1 256 * 1 := by
  show put 48640 [⟨imm, 8, 0, 0⟩] = _
  have b0 := fv_lt imm 1 256 (by decide)
  rw [put_cons, st _ imm 8 0 0 1 256 1 (by decide) (by decide) (by decide) (by omega)]
  exact put_nil' _
theorem size2 (rd rn rm ra imm cond : Int) (wide : Bool) (h : check ⟨2, rd, rn, rm, ra, imm, cond, wide⟩ = 0) : size ⟨2, rd, rn, rm, ra, imm, cond, wide⟩ = 2 := by
  unfold size; rw [h]; rfl
theorem num3 (rd rn rm ra imm cond : Int) (wide : Bool) : num ⟨3, rd, rn, rm, ra, imm, cond, wide⟩ = 4064280576 + fv imm 2048 2 * 67108864 + fv imm 4096 16 * 65536 + fv imm 256 8 * 4096 + fv rd 1 16 * 256 + fv imm 1 256 * 1 := by
  show put 4064280576 [⟨imm, 1, 11, 26⟩, ⟨imm, 4, 12, 16⟩, ⟨imm, 3, 8, 12⟩, ⟨rd, 4, 0, 8⟩, ⟨imm, 8, 0, 0⟩] = _
  have b0 := fv_lt imm 2048 2 (by decide)
  have b1 := fv_lt imm 4096 16 (by decide)
  have b2 := fv_lt imm 256 8 (by decide)
  have b3 := fv_lt rd 1 16 (by decide)
  have b4 := fv_lt imm 1 256 (by decide)
  rw [put_cons, st _ imm 1 11 26 67108864 2 2048 (by decide) (by decide) (by decide) (by omega), put_cons, st _ imm 4 12 16 65536 16 4096 (by decide) (by decide) (by decide) (by omega), put_cons, st _ imm 3 8 12 4096 8 256 (by decide) (by decide) (by decide) (by omega), put_cons, st _ rd 4 0 8 256 16 1 (by decide) (by decide) (by decide) (by omega), put_cons, st _ imm 8 0 0 1 256 1 (by decide) (by decide) (by decide) (by omega)]
  exact put_nil' _
theorem size3 (rd rn rm ra imm cond : Int) (wide : Bool) (h : check ⟨3, rd, rn, rm, ra, imm, cond, wide⟩ = 0) : size ⟨3, rd, rn, rm, ra, imm, cond, wide⟩ = 4 := by
  unfold size; rw [h]; rfl
theorem num4 (rd rn rm ra imm cond : Int) (wide : Bool) : num ⟨4, rd, rn, rm, ra, imm, cond, wide⟩ = 4072669184 + fv imm 2048 2 * 67108864 + fv imm 4096 16 * 65536 + fv imm 256 8 * 4096 + fv rd 1 16 * 256 + fv imm 1 256 * 1 := by
  show put 4072669184 [⟨imm, 1, 11, 26⟩, ⟨imm, 4, 12, 16⟩, ⟨imm, 3, 8, 12⟩, ⟨rd, 4, 0, 8⟩, ⟨imm, 8, 0, 0⟩] = _
  have b0 := fv_lt imm 2048 2 (by decide)
  have b1 := fv_lt imm 4096 16 (by decide)
  have b2 := fv_lt imm 256 8 (by decide)
  have b3 := fv_lt rd 1 16 (by decide)
  have b4 := fv_lt imm 1 256 (by decide)
  rw [put_cons, st _ imm 1 11 26 67108864 2 2048 (by decide) (by decide) (by decide) (by omega), put_cons, st _ imm 4 12 16 65536 16 4096 (by decide) (by decide) (by decide) (by omega), put_cons, st _ imm 3 8 12 4096 8 256 (by decide) (by decide) (by decide) (by omega), put_cons, st _ rd 4 0 8 256 16 1 (by decide) (by decide) (by decide) (by omega), put_cons, st _ imm 8 0 0 1 256 1 (by decide) (by decide) (by decide) (by omega)]
  exact put_nil' _
theorem size4 (rd rn rm ra imm cond : Int) (wide : Bool) (h : check ⟨4, rd, rn, rm, ra, imm, cond, wide⟩ = 0) : size ⟨4, rd, rn, rm, ra, imm, cond, wide⟩ = 4 := by
  unfold size; rw [h]; rfl
theorem num5 (rd rn rm ra imm cond : Int) (wide : Bool) : num ⟨5, rd, rn, rm, ra, imm, cond, wide⟩ = 3931045888 + fv imm 4 8 * 4096 + fv rd 1 16 * 256 + fv imm 1 4 * 64 + fv rm 1 16 * 1 := by
  show put 3931045888 [⟨imm, 3, 2, 12⟩, ⟨rd, 4, 0, 8⟩, ⟨imm, 2, 0, 6⟩, ⟨rm, 4, 0, 0⟩] = _
  have b0 := fv_lt imm 4 8 (by decide)
  have b1 := fv_lt rd 1 16 (by decide)
  have b2 := fv_lt imm 1 4 (by decide)
  have b3 := fv_lt rm 1 16 (by decide)
  rw [put_cons, st _ imm 3 2 12 4096 8 4 (by decide) (by decide) (by decide) (by omega), put_cons, st _ rd 4 0 8 256 16 1 (by decide) (by decide) (by decide) (by omega), put_cons, st _ imm 2 0 6 64 4 1 (by decide) (by decide) (by decide) (by omega), put_cons, st _ rm 4 0 0 1 16 1 (by decide) (by decide) (by decide) (by omega)]
  exact put_nil' _
theorem size5 (rd rn rm ra imm cond : Int) (wide : Bool) (h : check ⟨5, rd, rn, rm, ra, imm, cond, wide⟩ = 0) : size ⟨5, rd, rn, rm, ra, imm, cond, wide⟩ = 4 := by
  unfold size; rw [h]; rfl
theorem num6 (rd rn rm ra imm cond : Int) (wide : Bool) : num ⟨6, rd, rn, rm, ra, imm, cond, wide⟩ = 3931045904 + fv imm 4 8 * 4096 + fv rd 1 16 * 256 + fv imm 1 4 * 64 + fv rm 1 16 * 1 := by
  show put 3931045904 [⟨imm, 3, 2, 12⟩, ⟨rd, 4, 0, 8⟩, ⟨imm, 2, 0, 6⟩, ⟨rm, 4, 0, 0⟩] = _
  have b0 := fv_lt imm 4 8 (by decide)
  have b1 := fv_lt rd 1 16 (by decide)
  have b2 := fv_lt imm 1 4 (by decide)
  have b3 := fv_lt rm 1 16 (by decide)
  rw [put_cons, st _ imm 3 2 12 4096 8 4 (by decide) (by decide) (by decide) (by omega), put_cons, st _ rd 4 0 8 256 16 1 (by decide) (by decide) (by decide) (by omega), put_cons, st _ imm 2 0 6 64 4 1 (by decide) (by decide) (by decide) (by omega), put_cons, st _ rm 4 0 0 1 16 1 (by decide) (by decide) (by decide) (by omega)]
  exact put_nil' _
theorem size6 (rd rn rm ra imm cond : Int) (wide : Bool) (h : check ⟨6, rd, rn, rm, ra, imm, cond, wide⟩ = 0) : size ⟨6, rd, rn, rm, ra, imm, cond, wide⟩ = 4 := by
  unfold size; rw [h]; rfl
theorem num7 (rd rn rm ra imm cond : Int) (wide : Bool) : num ⟨7, rd, rn, rm, ra, imm, cond, wide⟩ = 3931045920 + fv imm 4 8 * 4096 + fv rd 1 16 * 256 + fv imm 1 4 * 64 + fv rm 1 16 * 1 := by
  show put 3931045920 [⟨imm, 3, 2, 12⟩, ⟨rd, 4, 0, 8⟩, ⟨imm, 2, 0, 6⟩, ⟨rm, 4, 0, 0⟩] = _
  have b0 := fv_lt imm 4 8 (by decide)
  have b1 := fv_lt rd 1 16 (by decide)
  have b2 := fv_lt imm 1 4 (by decide)
  have b3 := fv_lt rm 1 16 (by decide)
  rw [put_cons, st _ imm 3 2 12 4096 8 4 (by decide) (by decide) (by decide) (by omega), put_cons, st _ rd 4 0 8 256 16 1 (by decide) (by decide) (by decide) (by omega), put_cons, st _ imm 2 0 6 64 4 1 (by decide) (by decide) (by decide) (by omega), put_cons, st _ rm 4 0 0 1 16 1 (by decide) (by decide) (by decide) (by omega)]
  exact put_nil' _
theorem size7 (rd rn rm ra imm cond : Int) (wide : Bool) (h : check ⟨7, rd, rn, rm, ra, imm, cond, wide⟩ = 0) : size ⟨7, rd, rn, rm, ra, imm, cond, wide⟩ = 4 := by
  unfold size; rw [h]; rfl
theorem num8 (rd rn rm ra imm cond : Int) (wide : Bool) : num ⟨8, rd, rn, rm, ra, imm, cond, wide⟩ = 3931045936 + fv imm 4 8 * 4096 + fv rd 1 16 * 256 + fv imm 1 4 * 64 + fv rm 1 16 * 1 := by
  show put 3931045936 [⟨imm, 3, 2, 12⟩, ⟨rd, 4, 0, 8⟩, ⟨imm, 2, 0, 6⟩, ⟨rm, 4, 0, 0⟩] = _
  have b0 := fv_lt imm 4 8 (by decide)
  have b1 := fv_lt rd 1 16 (by decide)
  have b2 := fv_lt imm 1 4 (by decide)
  have b3 := fv_lt rm 1 16 (by decide)
  rw [put_cons, st _ imm 3 2 12 4096 8 4 (by decide) (by decide) (by decide) (by omega), put_cons, st _ rd 4 0 8 256 16 1 (by decide) (by decide) (by decide) (by omega), put_cons, st _ imm 2 0 6 64 4 1 (by decide) (by decide) (by decide) (by omega), put_cons, st _ rm 4 0 0 1 16 1 (by decide) (by decide) (by decide) (by omega)]
  exact put_nil' _
theorem size8 (rd rn rm ra imm cond : Int) (wide : Bool) (h : check ⟨8, rd, rn, rm, ra, imm, cond, wide⟩ = 0) : size ⟨8, rd, rn, rm, ra, imm, cond, wide⟩ = 4 := by
  unfold size; rw [h]; rfl
theorem num9 (rd rn rm ra imm cond : Int) (wide : Bool) : num ⟨9, rd, rn, rm, ra, imm, cond, wide⟩ = 3933143040 + fv rd 1 16 * 256 + fv rm 1 16 * 1 := by
  show put 3933143040 [⟨rd, 4, 0, 8⟩, ⟨rm, 4, 0, 0⟩] = _
  have b0 := fv_lt rd 1 16 (by decide)
  have b1 := fv_lt rm 1 16 (by decide)
  rw [put_cons, st _ rd 4 0 8 256 16 1 (by decide) (by decide) (by decide) (by omega), put_cons, st _ rm 4 0 0 1 16 1 (by decide) (by decide) (by decide) (by omega)]
  exact put_nil' _
theorem size9 (rd rn rm ra imm cond : Int) (wide : Bool) (h : check ⟨9, rd, rn, rm, ra, imm, cond, wide⟩ = 0) : size ⟨9, rd, rn, rm, ra, imm, cond, wide⟩ = 4 := by
  unfold size; rw [h]; rfl
theorem num10 (rd rn rm ra imm cond : Int) (wide : Bool) : num ⟨10, rd, rn, rm, ra, imm, cond, wide⟩ = 3925868544 + fv rn 1 16 * 65536 + fv rd 1 16 * 256 + fv rm 1 16 * 1 := by
  show put 3925868544 [⟨rn, 4, 0, 16⟩, ⟨rd, 4, 0, 8⟩, ⟨rm, 4, 0, 0⟩] = _
  have b0 := fv_lt rn 1 16 (by decide)
  have b1 := fv_lt rd 1 16 (by decide)
  have b2 := fv_lt rm 1 16 (by decide)
  rw [put_cons, st _ rn 4 0 16 65536 16 1 (by decide) (by decide) (by decide) (by omega), put_cons, st _ rd 4 0 8 256 16 1 (by decide) (by decide) (by decide) (by omega), put_cons, st _ rm 4 0 0 1 16 1 (by decide) (by decide) (by decide) (by omega)]
  exact put_nil' _
theorem size10 (rd rn rm ra imm cond : Int) (wide : Bool) (h : check ⟨10, rd, rn, rm, ra, imm, cond, wide⟩ = 0) : size ⟨10, rd, rn, rm, ra, imm, cond, wide⟩ = 4 := by
  unfold size; rw [h]; rfl
theorem num11 (rd rn rm ra imm cond : Int) (wide : Bool) : num ⟨11, rd, rn, rm, ra, imm, cond, wide⟩ = 3927965696 + fv rn 1 16 * 65536 + fv rd 1 16 * 256 + fv rm 1 16 * 1 := by
  show put 3927965696 [⟨rn, 4, 0, 16⟩, ⟨rd, 4, 0, 8⟩, ⟨rm, 4, 0, 0⟩] = _
  have b0 := fv_lt rn 1 16 (by decide)
  have b1 := fv_lt rd 1 16 (by decide)
  have b2 := fv_lt rm 1 16 (by decide)
  rw [put_cons, st _ rn 4 0 16 65536 16 1 (by decide) (by decide) (by decide) (by omega), put_cons, st _ rd 4 0 8 256 16 1 (by decide) (by decide) (by decide) (by omega), put_cons, st _ rm 4 0 0 1 16 1 (by decide) (by decide) (by decide) (by omega)]
  exact put_nil' _
theorem size11 (rd rn rm ra imm cond : Int) (wide : Bool) (h : check ⟨11, rd, rn, rm, ra, imm, cond, wide⟩ = 0) : size ⟨11, rd, rn, rm, ra, imm, cond, wide⟩ = 4 := by
  unfold size; rw [h]; rfl
theorem num12 (rd rn rm ra imm cond : Int) (wide : Bool) : num ⟨12, rd, rn, rm, ra, imm, cond, wide⟩ = 3930062848 + fv rn 1 16 * 65536 + fv rd 1 16 * 256 + fv rm 1 16 * 1 := by
  show put 3930062848 [⟨rn, 4, 0, 16⟩, ⟨rd, 4, 0, 8⟩, ⟨rm, 4, 0, 0⟩] = _
  have b0 := fv_lt rn 1 16 (by decide)
  have b1 := fv_lt rd 1 16 (by decide)
  have b2 := fv_lt rm 1 16 (by decide)
  rw [put_cons, st _ rn 4 0 16 65536 16 1 (by decide) (by decide) (by decide) (by omega), put_cons, st _ rd 4 0 8 256 16 1 (by decide) (by decide) (by decide) (by omega), put_cons, st _ rm 4 0 0 1 16 1 (by decide) (by decide) (by decide) (by omega)]
  exact put_nil' _
theorem size12 (rd rn rm ra imm cond : Int) (wide : Bool) (h : check ⟨12, rd, rn, rm, ra, imm, cond, wide⟩ = 0) : size ⟨12, rd, rn, rm, ra, imm, cond, wide⟩ = 4 := by
  unfold size; rw [h]; rfl
theorem num13 (rd rn rm ra imm cond : Int) (wide : Bool) : num ⟨13, rd, rn, rm, ra, imm, cond, wide⟩ = 3934257152 + fv rn 1 16 * 65536 + fv rd 1 16 * 256 + fv rm 1 16 * 1 := by
  show put 3934257152 [⟨rn, 4, 0, 16⟩, ⟨rd, 4, 0, 8⟩, ⟨rm, 4, 0, 0⟩] = _
  have b0 := fv_lt rn 1 16 (by decide)
  have b1 := fv_lt rd 1 16 (by decide)
  have b2 := fv_lt rm 1 16 (by decide)
  rw [put_cons, st _ rn 4 0 16 65536 16 1 (by decide) (by decide) (by decide) (by omega), put_cons, st _ rd 4 0 8 256 16 1 (by decide) (by decide) (by decide) (by omega), put_cons, st _ rm 4 0 0 1 16 1 (by decide) (by decide) (by decide) (by omega)]
  exact put_nil' _
theorem size13 (rd rn rm ra imm cond : Int) (wide : Bool) (h : check ⟨13, rd, rn, rm, ra, imm, cond, wide⟩ = 0) : size ⟨13, rd, rn, rm, ra, imm, cond, wide⟩ = 4 := by
  unfold size; rw [h]; rfl
theorem num14 (rd rn rm ra imm cond : Int) (wide : Bool) : num ⟨14, rd, rn, rm, ra, imm, cond, wide⟩ = 3942645760 + fv rn 1 16 * 65536 + fv rd 1 16 * 256 + fv rm 1 16 * 1 := by
  show put 3942645760 [⟨rn, 4, 0, 16⟩, ⟨rd, 4, 0, 8⟩, ⟨rm, 4, 0, 0⟩] = _
  have b0 := fv_lt rn 1 16 (by decide)
  have b1 := fv_lt rd 1 16 (by decide)
  have b2 := fv_lt rm 1 16 (by decide)
  rw [put_cons, st _ rn 4 0 16 65536 16 1 (by decide) (by decide) (by decide) (by omega), put_cons, st _ rd 4 0 8 256 16 1 (by decide) (by decide) (by decide) (by omega), put_cons, st _ rm 4 0 0 1 16 1 (by decide) (by decide) (by decide) (by omega)]
  exact put_nil' _
theorem size14 (rd rn rm ra imm cond : Int) (wide : Bool) (h : check ⟨14, rd, rn, rm, ra, imm, cond, wide⟩ = 0) : size ⟨14, rd, rn, rm, ra, imm, cond, wide⟩ = 4 := by
  unfold size; rw [h]; rfl
theorem num15 (rd rn rm ra imm cond : Int) (wide : Bool) : num ⟨15, rd, rn, rm, ra, imm, cond, wide⟩ = 3953131520 + fv rn 1 16 * 65536 + fv rd 1 16 * 256 + fv rm 1 16 * 1 := by
  show put 3953131520 [⟨rn, 4, 0, 16⟩, ⟨rd, 4, 0, 8⟩, ⟨rm, 4, 0, 0⟩] = _
  have b0 := fv_lt rn 1 16 (by decide)
  have b1 := fv_lt rd 1 16 (by decide)
  have b2 := fv_lt rm 1 16 (by decide)
  rw [put_cons, st _ rn 4 0 16 65536 16 1 (by decide) (by decide) (by decide) (by omega), put_cons, st _ rd 4 0 8 256 16 1 (by decide) (by decide) (by decide) (by omega), put_cons, st _ rm 4 0 0 1 16 1 (by decide) (by decide) (by decide) (by omega)]
  exact put_nil' _
theorem size15 (rd rn rm ra imm cond : Int) (wide : Bool) (h : check ⟨15, rd, rn, rm, ra, imm, cond, wide⟩ = 0) : size ⟨15, rd, rn, rm, ra, imm, cond, wide⟩ = 4 := by
  unfold size; rw [h]; rfl
theorem num16 (rd rn rm ra imm cond : Int) (wide : Bool) : num ⟨16, rd, rn, rm, ra, imm, cond, wide⟩ = 4211142656 + fv rn 1 16 * 65536 + fv rd 1 16 * 256 + fv rm 1 16 * 1 := by
  show put 4211142656 [⟨rn, 4, 0, 16⟩, ⟨rd, 4, 0, 8⟩, ⟨rm, 4, 0, 0⟩] = _
  have b0 := fv_lt rn 1 16 (by decide)
  have b1 := fv_lt rd 1 16 (by decide)
  have b2 := fv_lt rm 1 16 (by decide)
  rw [put_cons, st _ rn 4 0 16 65536 16 1 (by decide) (by decide) (by decide) (by omega), put_cons, st _ rd 4 0 8 256 16 1 (by decide) (by decide) (by decide) (by omega), put_cons, st _ rm 4 0 0 1 16 1 (by decide) (by decide) (by decide) (by omega)]
  exact put_nil' _
theorem size16 (rd rn rm ra imm cond : Int) (wide : Bool) (h : check ⟨16, rd, rn, rm, ra, imm, cond, wide⟩ = 0) : size ⟨16, rd, rn, rm, ra, imm, cond, wide⟩ = 4 := by
  unfold size; rw [h]; rfl
theorem num17 (rd rn rm ra imm cond : Int) (wide : Bool) : num ⟨17, rd, rn, rm, ra, imm, cond, wide⟩ = 4221566976 + fv rn 1 16 * 65536 + fv rd 1 16 * 4096 + fv ra 1 16 * 256 + fv rm 1 16 * 1 := by
  show put 4221566976 [⟨rn, 4, 0, 16⟩, ⟨rd, 4, 0, 12⟩, ⟨ra, 4, 0, 8⟩, ⟨rm, 4, 0, 0⟩] = _
  have b0 := fv_lt rn 1 16 (by decide)
  have b1 := fv_lt rd 1 16 (by decide)
  have b2 := fv_lt ra 1 16 (by decide)
  have b3 := fv_lt rm 1 16 (by decide)
  rw [put_cons, st _ rn 4 0 16 65536 16 1 (by decide) (by decide) (by decide) (by omega), put_cons, st _ rd 4 0 12 4096 16 1 (by decide) (by decide) (by decide) (by omega), put_cons, st _ ra 4 0 8 256 16 1 (by decide) (by decide) (by decide) (by omega), put_cons, st _ rm 4 0 0 1 16 1 (by decide) (by decide) (by decide) (by omega)]
  exact put_nil' _
theorem size17 (rd rn rm ra imm cond : Int) (wide : Bool) (h : check ⟨17, rd, rn, rm, ra, imm, cond, wide⟩ = 0) : size ⟨17, rd, rn, rm, ra, imm, cond, wide⟩ = 4 := by
  unfold size; rw [h]; rfl
theorem num18 (rd rn rm ra imm cond : Int) (wide : Bool) : num ⟨18, rd, rn, rm, ra, imm, cond, wide⟩ = 4083154944 + fv rn 1 16 * 65536 + fv imm 4 8 * 4096 + fv rd 1 16 * 256 + fv imm 1 4 * 64 + fv (imm + ra - 1) 1 32 * 1 := by
  show put 4083154944 [⟨rn, 4, 0, 16⟩, ⟨imm, 3, 2, 12⟩, ⟨rd, 4, 0, 8⟩, ⟨imm, 2, 0, 6⟩, ⟨(imm + ra - 1), 5, 0, 0⟩] = _
  have b0 := fv_lt rn 1 16 (by decide)
  have b1 := fv_lt imm 4 8 (by decide)
  have b2 := fv_lt rd 1 16 (by decide)
  have b3 := fv_lt imm 1 4 (by decide)
  have b4 := fv_lt (imm + ra - 1) 1 32 (by decide)
  rw [put_cons, st _ rn 4 0 16 65536 16 1 (by decide) (by decide) (by decide) (by omega), put_cons, st _ imm 3 2 12 4096 8 4 (by decide) (by decide) (by decide) (by omega), put_cons, st _ rd 4 0 8 256 16 1 (by decide) (by decide) (by decide) (by omega), put_cons, st _ imm 2 0 6 64 4 1 (by decide) (by decide) (by decide) (by omega), put_cons, st _ (imm + ra - 1) 5 0 0 1 32 1 (by decide) (by decide) (by decide) (by omega)]
  exact put_nil' _
theorem size18 (rd rn rm ra imm cond : Int) (wide : Bool) (h : check ⟨18, rd, rn, rm, ra, imm, cond, wide⟩ = 0) : size ⟨18, rd, rn, rm, ra, imm, cond, wide⟩ = 4 := by
  unfold size; rw [h]; rfl
theorem num19 (rd rn rm ra imm cond : Int) (wide : Bool) : num ⟨19, rd, rn, rm, ra, imm, cond, wide⟩ = 26624 + fv rn 1 8 * 8 + fv rd 1 8 * 1 := by
  show put 26624 [⟨rn, 3, 0, 3⟩, ⟨rd, 3, 0, 0⟩] = _
  have b0 := fv_lt rn 1 8 (by decide)
  have b1 := fv_lt rd 1 8 (by decide)
  rw [put_cons, st _ rn 3 0 3 8 8 1 (by decide) (by decide) (by decide) (by omega), put_cons, st _ rd 3 0 0 1 8 1 (by decide) (by decide) (by decide) (by omega)]
  exact put_nil' _
theorem size19 (rd rn rm ra imm cond : Int) (wide : Bool) (h : check ⟨19, rd, rn, rm, ra, imm, cond, wide⟩ = 0) : size ⟨19, rd, rn, rm, ra, imm, cond, wide⟩ = 2 := by
  unfold size; rw [h]; rfl
theorem num20 (rd rn rm ra imm cond : Int) (wide : Bool) : num ⟨20, rd, rn, rm, ra, imm, cond, wide⟩ = 24576 + fv rn 1 8 * 8 + fv rd 1 8 * 1 := by
  show put 24576 [⟨rn, 3, 0, 3⟩, ⟨rd, 3, 0, 0⟩] = _
  have b0 := fv_lt rn 1 8 (by decide)
  have b1 := fv_lt rd 1 8 (by decide)
  rw [put_cons, st _ rn 3 0 3 8 8 1 (by decide) (by decide) (by decide) (by omega), put_cons, st _ rd 3 0 0 1 8 1 (by decide) (by decide) (by decide) (by omega)]
  exact put_nil' _
theorem size20 (rd rn rm ra imm cond : Int) (wide : Bool) (h : check ⟨20, rd, rn, rm, ra, imm, cond, wide⟩ = 0) : size ⟨20, rd, rn, rm, ra, imm, cond, wide⟩ = 2 := by
  unfold size; rw [h]; rfl
theorem num21 (rd rn rm ra imm cond : Int) (wide : Bool) : num ⟨21, rd, rn, rm, ra, imm, cond, wide⟩ = 30720 + fv rn 1 8 * 8 + fv rd 1 8 * 1 := by
  show put 30720 [⟨rn, 3, 0, 3⟩, ⟨rd, 3, 0, 0⟩] = _
  have b0 := fv_lt rn 1 8 (by decide)
  have b1 := fv_lt rd 1 8 (by decide)
  rw [put_cons, st _ rn 3 0 3 8 8 1 (by decide) (by decide) (by decide) (by omega), put_cons, st _ rd 3 0 0 1 8 1 (by decide) (by decide) (by decide) (by omega)]
  exact put_nil' _
theorem size21 (rd rn rm ra imm cond : Int) (wide : Bool) (h : check ⟨21, rd, rn, rm, ra, imm, cond, wide⟩ = 0) : size ⟨21, rd, rn, rm, ra, imm, cond, wide⟩ = 2 := by
  unfold size; rw [h]; rfl
theorem num22 (rd rn rm ra imm cond : Int) (wide : Bool) : num ⟨22, rd, rn, rm, ra, imm, cond, wide⟩ = 28672 + fv rn 1 8 * 8 + fv rd 1 8 * 1 := by
  show put 28672 [⟨rn, 3, 0, 3⟩, ⟨rd, 3, 0, 0⟩] = _
  have b0 := fv_lt rn 1 8 (by decide)
  have b1 := fv_lt rd 1 8 (by decide)
  rw [put_cons, st _ rn 3 0 3 8 8 1 (by decide) (by decide) (by decide) (by omega), put_cons, st _ rd 3 0 0 1 8 1 (by decide) (by decide) (by decide) (by omega)]
  exact put_nil' _
theorem size22 (rd rn rm ra imm cond : Int) (wide : Bool) (h : check ⟨22, rd, rn, rm, ra, imm, cond, wide⟩ = 0) : size ⟨22, rd, rn, rm, ra, imm, cond, wide⟩ = 2 := by
  unfold size; rw [h]; rfl
theorem num23 (rd rn rm ra imm cond : Int) (wide : Bool) : num ⟨23, rd, rn, rm, ra, imm, cond, wide⟩ = 17024 + fv rm 1 8 * 8 + fv rn 1 8 * 1 := by
  show put 17024 [⟨rm, 3, 0, 3⟩, ⟨rn, 3, 0, 0⟩] = _
  have b0 := fv_lt rm 1 8 (by decide)
  have b1 := fv_lt rn 1 8 (by decide)
  rw [put_cons, st _ rm 3 0 3 8 8 1 (by decide) (by decide) (by decide) (by omega), put_cons, st _ rn 3 0 0 1 8 1 (by decide) (by decide) (by decide) (by omega)]
  exact put_nil' _
theorem size23 (rd rn rm ra imm cond : Int) (wide : Bool) (h : check ⟨23, rd, rn, rm, ra, imm, cond, wide⟩ = 0) : size ⟨23, rd, rn, rm, ra, imm, cond, wide⟩ = 2 := by
  unfold size; rw [h]; rfl
theorem num24n (rd rn rm ra imm cond : Int) : num ⟨24, rd, rn, rm, ra, imm, cond, false⟩ = 57344 + fv (off imm) 2 2048 * 1 := by
  show put 57344 [⟨(off imm), 11, 1, 0⟩] = _
  have b0 := fv_lt (off imm) 2 2048 (by decide)
  rw [put_cons, st _ (off imm) 11 1 0 1 2048 2 (by decide) (by decide) (by decide) (by omega)]
  exact put_nil' _
theorem size24n (rd rn rm ra imm cond : Int) (h : check ⟨24, rd, rn, rm, ra, imm, cond, false⟩ = 0) : size ⟨24, rd, rn, rm, ra, imm, cond, false⟩ = 2 := by
  unfold size; rw [h]; rfl
theorem num24w (rd rn rm ra imm cond : Int) : num ⟨24, rd, rn, rm, ra, imm, cond, true⟩ = 4026568704 + fv (off imm) 16777216 2 * 67108864 + fv (off imm) 4096 1024 * 65536 + fv (alike (off imm) 23 24) 1 2 * 8192 + fv (alike (off imm) 22 24) 1 2 * 2048 + fv (off imm) 2 2048 * 1 := by
  show put 4026568704 [⟨(off imm), 1, 24, 26⟩, ⟨(off imm), 10, 12, 16⟩, ⟨(alike (off imm) 23 24), 1, 0, 13⟩, ⟨(alike (off imm) 22 24), 1, 0, 11⟩, ⟨(off imm), 11, 1, 0⟩] = _
  have b0 := fv_lt (off imm) 16777216 2 (by decide)
  have b1 := fv_lt (off imm) 4096 1024 (by decide)
  have b2 := fv_lt (alike (off imm) 23 24) 1 2 (by decide)
  have b3 := fv_lt (alike (off imm) 22 24) 1 2 (by decide)
  have b4 := fv_lt (off imm) 2 2048 (by decide)
  rw [put_cons, st _ (off imm) 1 24 26 67108864 2 16777216 (by decide) (by decide) (by decide) (by omega), put_cons, st _ (off imm) 10 12 16 65536 1024 4096 (by decide) (by decide) (by decide) (by omega), put_cons, st _ (alike (off imm) 23 24) 1 0 13 8192 2 1 (by decide) (by decide) (by decide) (by omega), put_cons, st _ (alike (off imm) 22 24) 1 0 11 2048 2 1 (by decide) (by decide) (by decide) (by omega), put_cons, st _ (off imm) 11 1 0 1 2048 2 (by decide) (by decide) (by decide) (by omega)]
  exact put_nil' _
theorem size24w (rd rn rm ra imm cond : Int) (h : check ⟨24, rd, rn, rm, ra, imm, cond, true⟩ = 0) : size ⟨24, rd, rn, rm, ra, imm, cond, true⟩ = 4 := by
  unfold size; rw [h]; rfl
theorem num25n (rd rn rm ra imm cond : Int) : num ⟨25, rd, rn, rm, ra, imm, cond, false⟩ = 53248 + fv cond 1 16 * 256 + fv (off imm) 2 256 * 1 := by
  show put 53248 [⟨cond, 4, 0, 8⟩, ⟨(off imm), 8, 1, 0⟩] = _
  have b0 := fv_lt cond 1 16 (by decide)
  have b1 := fv_lt (off imm) 2 256 (by decide)
  rw [put_cons, st _ cond 4 0 8 256 16 1 (by decide) (by decide) (by decide) (by omega), put_cons, st _ (off imm) 8 1 0 1 256 2 (by decide) (by decide) (by decide) (by omega)]
  exact put_nil' _
theorem size25n (rd rn rm ra imm cond : Int) (h : check ⟨25, rd, rn, rm, ra, imm, cond, false⟩ = 0) : size ⟨25, rd, rn, rm, ra, imm, cond, false⟩ = 2 := by
  unfold size; rw [h]; rfl
theorem num25w (rd rn rm ra imm cond : Int) : num ⟨25, rd, rn, rm, ra, imm, cond, true⟩ = 4026564608 + fv (off imm) 1048576 2 * 67108864 + fv cond 1 16 * 4194304 + fv (off imm) 4096 64 * 65536 + fv (off imm) 262144 2 * 8192 + fv (off imm) 524288 2 * 2048 + fv (off imm) 2 2048 * 1 := by
  show put 4026564608 [⟨(off imm), 1, 20, 26⟩, ⟨cond, 4, 0, 22⟩, ⟨(off imm), 6, 12, 16⟩, ⟨(off imm), 1, 18, 13⟩, ⟨(off imm), 1, 19, 11⟩, ⟨(off imm), 11, 1, 0⟩] = _
  have b0 := fv_lt (off imm) 1048576 2 (by decide)
  have b1 := fv_lt cond 1 16 (by decide)
  have b2 := fv_lt (off imm) 4096 64 (by decide)
  have b3 := fv_lt (off imm) 262144 2 (by decide)
  have b4 := fv_lt (off imm) 524288 2 (by decide)
  have b5 := fv_lt (off imm) 2 2048 (by decide)
  rw [put_cons, st _ (off imm) 1 20 26 67108864 2 1048576 (by decide) (by decide) (by decide) (by omega), put_cons, st _ cond 4 0 22 4194304 16 1 (by decide) (by decide) (by decide) (by omega), put_cons, st _ (off imm) 6 12 16 65536 64 4096 (by decide) (by decide) (by decide) (by omega), put_cons, st _ (off imm) 1 18 13 8192 2 262144 (by decide) (by decide) (by decide) (by omega), put_cons, st _ (off imm) 1 19 11 2048 2 524288 (by decide) (by decide) (by decide) (by omega), put_cons, st _ (off imm) 11 1 0 1 2048 2 (by decide) (by decide) (by decide) (by omega)]
  exact put_nil' _
theorem size25w (rd rn rm ra imm cond : Int) (h : check ⟨25, rd, rn, rm, ra, imm, cond, true⟩ = 0) : size ⟨25, rd, rn, rm, ra, imm, cond, true⟩ = 4 := by
  unfold size; rw [h]; rfl
theorem op_range {i : Ins} (h : check i = 0) : 1 ≤ i.op ∧ i.op ≤ 25 := by
  rw [check_ok] at h
  have := h.1; unfold fits at this; rw [Bool.and_eq_true] at this
  exact known_op this.1
theorem size_num (i : Ins) (h : check i = 0) : (size i = 2 ∧ num i < 65536) ∨ (size i = 4 ∧ 3892314112 ≤ num i ∧ num i < 4294967296) := by
  obtain ⟨op, rd, rn, rm, ra, imm, cond, wide⟩ := i
  rcases op_cases (op_range h) with rfl | rfl | rfl | rfl | rfl | rfl | rfl | rfl | rfl | rfl | rfl | rfl | rfl | rfl | rfl | rfl | rfl | rfl | rfl | rfl | rfl | rfl | rfl | rfl | rfl
  ·
    exact .inl ⟨size1 _ _ _ _ _ _ _ h, by rw [num1]; omega⟩
  ·
    have b0 := fv_lt imm 1 256 (by decide)
    exact .inl ⟨size2 _ _ _ _ _ _ _ h, by rw [num2]; omega⟩
  ·
    have b0 := fv_lt imm 2048 2 (by decide)
    have b1 := fv_lt imm 4096 16 (by decide)
    have b2 := fv_lt imm 256 8 (by decide)
    have b3 := fv_lt rd 1 16 (by decide)
    have b4 := fv_lt imm 1 256 (by decide)
    exact .inr ⟨size3 _ _ _ _ _ _ _ h, by rw [num3]; omega⟩
  ·
    have b0 := fv_lt imm 2048 2 (by decide)
    have b1 := fv_lt imm 4096 16 (by decide)
    have b2 := fv_lt imm 256 8 (by decide)
    have b3 := fv_lt rd 1 16 (by decide)
    have b4 := fv_lt imm 1 256 (by decide)
    exact .inr ⟨size4 _ _ _ _ _ _ _ h, by rw [num4]; omega⟩
  ·
    have b0 := fv_lt imm 4 8 (by decide)
    have b1 := fv_lt rd 1 16 (by decide)
    have b2 := fv_lt imm 1 4 (by decide)
    have b3 := fv_lt rm 1 16 (by decide)
    exact .inr ⟨size5 _ _ _ _ _ _ _ h, by rw [num5]; omega⟩
  ·
    have b0 := fv_lt imm 4 8 (by decide)
    have b1 := fv_lt rd 1 16 (by decide)
    have b2 := fv_lt imm 1 4 (by decide)
    have b3 := fv_lt rm 1 16 (by decide)
    exact .inr ⟨size6 _ _ _ _ _ _ _ h, by rw [num6]; omega⟩
  ·
    have b0 := fv_lt imm 4 8 (by decide)
    have b1 := fv_lt rd 1 16 (by decide)
    have b2 := fv_lt imm 1 4 (by decide)
    have b3 := fv_lt rm 1 16 (by decide)
    exact .inr ⟨size7 _ _ _ _ _ _ _ h, by rw [num7]; omega⟩
  ·
    have b0 := fv_lt imm 4 8 (by decide)
    have b1 := fv_lt rd 1 16 (by decide)
    have b2 := fv_lt imm 1 4 (by decide)
    have b3 := fv_lt rm 1 16 (by decide)
    exact .inr ⟨size8 _ _ _ _ _ _ _ h, by rw [num8]; omega⟩
  ·
    have b0 := fv_lt rd 1 16 (by decide)
    have b1 := fv_lt rm 1 16 (by decide)
    exact .inr ⟨size9 _ _ _ _ _ _ _ h, by rw [num9]; omega⟩
  ·
    have b0 := fv_lt rn 1 16 (by decide)
    have b1 := fv_lt rd 1 16 (by decide)
    have b2 := fv_lt rm 1 16 (by decide)
    exact .inr ⟨size10 _ _ _ _ _ _ _ h, by rw [num10]; omega⟩
  ·
    have b0 := fv_lt rn 1 16 (by decide)
    have b1 := fv_lt rd 1 16 (by decide)
    have b2 := fv_lt rm 1 16 (by decide)
    exact .inr ⟨size11 _ _ _ _ _ _ _ h, by rw [num11]; omega⟩
  ·
    have b0 := fv_lt rn 1 16 (by decide)
    have b1 := fv_lt rd 1 16 (by decide)
    have b2 := fv_lt rm 1 16 (by decide)
    exact .inr ⟨size12 _ _ _ _ _ _ _ h, by rw [num12]; omega⟩
  ·
    have b0 := fv_lt rn 1 16 (by decide)
    have b1 := fv_lt rd 1 16 (by decide)
    have b2 := fv_lt rm 1 16 (by decide)
    exact .inr ⟨size13 _ _ _ _ _ _ _ h, by rw [num13]; omega⟩
  ·
    have b0 := fv_lt rn 1 16 (by decide)
    have b1 := fv_lt rd 1 16 (by decide)
    have b2 := fv_lt rm 1 16 (by decide)
    exact .inr ⟨size14 _ _ _ _ _ _ _ h, by rw [num14]; omega⟩
  ·
    have b0 := fv_lt rn 1 16 (by decide)
    have b1 := fv_lt rd 1 16 (by decide)
    have b2 := fv_lt rm 1 16 (by decide)
    exact .inr ⟨size15 _ _ _ _ _ _ _ h, by rw [num15]; omega⟩
  ·
    have b0 := fv_lt rn 1 16 (by decide)
    have b1 := fv_lt rd 1 16 (by decide)
    have b2 := fv_lt rm 1 16 (by decide)
    exact .inr ⟨size16 _ _ _ _ _ _ _ h, by rw [num16]; omega⟩
  ·
    have b0 := fv_lt rn 1 16 (by decide)
    have b1 := fv_lt rd 1 16 (by decide)
    have b2 := fv_lt ra 1 16 (by decide)
    have b3 := fv_lt rm 1 16 (by decide)
    exact .inr ⟨size17 _ _ _ _ _ _ _ h, by rw [num17]; omega⟩
  ·
    have b0 := fv_lt rn 1 16 (by decide)
    have b1 := fv_lt imm 4 8 (by decide)
    have b2 := fv_lt rd 1 16 (by decide)
    have b3 := fv_lt imm 1 4 (by decide)
    have b4 := fv_lt (imm + ra - 1) 1 32 (by decide)
    exact .inr ⟨size18 _ _ _ _ _ _ _ h, by rw [num18]; omega⟩
  ·
    have b0 := fv_lt rn 1 8 (by decide)
    have b1 := fv_lt rd 1 8 (by decide)
    exact .inl ⟨size19 _ _ _ _ _ _ _ h, by rw [num19]; omega⟩
  ·
    have b0 := fv_lt rn 1 8 (by decide)
    have b1 := fv_lt rd 1 8 (by decide)
    exact .inl ⟨size20 _ _ _ _ _ _ _ h, by rw [num20]; omega⟩
  ·
    have b0 := fv_lt rn 1 8 (by decide)
    have b1 := fv_lt rd 1 8 (by decide)
    exact .inl ⟨size21 _ _ _ _ _ _ _ h, by rw [num21]; omega⟩
  ·
    have b0 := fv_lt rn 1 8 (by decide)
    have b1 := fv_lt rd 1 8 (by decide)
    exact .inl ⟨size22 _ _ _ _ _ _ _ h, by rw [num22]; omega⟩
  ·
    have b0 := fv_lt rm 1 8 (by decide)
    have b1 := fv_lt rn 1 8 (by decide)
    exact .inl ⟨size23 _ _ _ _ _ _ _ h, by rw [num23]; omega⟩
  · cases wide
    ·
      have b0 := fv_lt (off imm) 2 2048 (by decide)
      exact .inl ⟨size24n _ _ _ _ _ _ h, by rw [num24n]; omega⟩
    ·
      have b0 := fv_lt (off imm) 16777216 2 (by decide)
      have b1 := fv_lt (off imm) 4096 1024 (by decide)
      have b2 := fv_lt (alike (off imm) 23 24) 1 2 (by decide)
      have b3 := fv_lt (alike (off imm) 22 24) 1 2 (by decide)
      have b4 := fv_lt (off imm) 2 2048 (by decide)
      exact .inr ⟨size24w _ _ _ _ _ _ h, by rw [num24w]; omega⟩
  · cases wide
    ·
      have b0 := fv_lt cond 1 16 (by decide)
      have b1 := fv_lt (off imm) 2 256 (by decide)
      exact .inl ⟨size25n _ _ _ _ _ _ h, by rw [num25n]; omega⟩
    ·
      have b0 := fv_lt (off imm) 1048576 2 (by decide)
      have b1 := fv_lt cond 1 16 (by decide)
      have b2 := fv_lt (off imm) 4096 64 (by decide)
      have b3 := fv_lt (off imm) 262144 2 (by decide)
      have b4 := fv_lt (off imm) 524288 2 (by decide)
      have b5 := fv_lt (off imm) 2 2048 (by decide)
      exact .inr ⟨size25w _ _ _ _ _ _ h, by rw [num25w]; omega⟩
end Go.Proofs.Ytplfpaffjaldoaa.Th
end
section
namespace Go.Proofs.Ytplfpaffjaldoaa.Th
open Go.RowKit

/-- which operation bits of 16, and of 32, are: a wide branch's number has 100 added -/
def op16 (h : Nat) : Int :=
  if h / 2048 = 28 then 24 else if h / 4096 = 13 then 25 else if h = 48896 then 1 else if h / 256 = 190 then 2 else
  if h / 64 = 416 then 19 else if h / 64 = 384 then 20 else if h / 64 = 480 then 21 else if h / 64 = 448 then 22 else if h / 64 = 266 then 23 else 0
def op32 (a b : Nat) : Int :=
  if a / 2048 = 30 then
    if b / 32768 = 1 then (if b / 4096 % 2 = 1 then 124 else 125)
    else if a / 16 % 64 = 36 then 3 else if a / 16 % 64 = 44 then 4 else 18
  else if a = 59983 then 5 + ((b / 16 % 4 : Nat) : Int)
  else if a = 60015 then 9
  else if a / 16 = 3744 then 10 else if a / 16 = 3746 then 11 else if a / 16 = 3748 then 12 else if a / 16 = 3752 then 13
  else if a / 16 = 3760 then 14 else if a / 16 = 3770 then 15 else if a / 16 = 4016 then 16 else if a / 16 = 4026 then 17 else 0
def opOf (i : Ins) : Int := if i.wide then i.op + 100 else i.op
theorem op_told (i : Ins) (h : check i = 0) : (size i = 2 → op16 (num i) = opOf i) ∧ (size i = 4 → op32 (num i / 65536) (num i % 65536) = opOf i) := by
  obtain ⟨op, rd, rn, rm, ra, imm, cond, wide⟩ := i
  rcases op_cases (op_range h) with rfl | rfl | rfl | rfl | rfl | rfl | rfl | rfl | rfl | rfl | rfl | rfl | rfl | rfl | rfl | rfl | rfl | rfl | rfl | rfl | rfl | rfl | rfl | rfl | rfl
  ·
    have hs := size1 _ _ _ _ _ _ _ h
    have hn := num1 rd rn rm ra imm cond wide
    rw [ok1] at h
    obtain ⟨h1, h2, h3, h4, h5, h6, rfl⟩ := h
    rw [hs, hn]
    clear hs hn
    refine ⟨fun _ => ?_, fun e => absurd e (by decide)⟩
    show op16 _ = 1
    unfold op16
    repeat (first | rw [if_pos (by omega)] | rw [if_neg (by omega)])
  ·
    have b0 := fv_lt imm 1 256 (by decide)
    have hs := size2 _ _ _ _ _ _ _ h
    have hn := num2 rd rn rm ra imm cond wide
    rw [ok2] at h
    obtain ⟨h1, h2, h3, h4, h5, h6, rfl⟩ := h
    rw [hs, hn]
    clear hs hn
    refine ⟨fun _ => ?_, fun e => absurd e (by decide)⟩
    show op16 _ = 2
    unfold op16
    repeat (first | rw [if_pos (by omega)] | rw [if_neg (by omega)])
  ·
    have b0 := fv_lt imm 2048 2 (by decide)
    have b1 := fv_lt imm 4096 16 (by decide)
    have b2 := fv_lt imm 256 8 (by decide)
    have b3 := fv_lt rd 1 16 (by decide)
    have b4 := fv_lt imm 1 256 (by decide)
    have hs := size3 _ _ _ _ _ _ _ h
    have hn := num3 rd rn rm ra imm cond wide
    rw [ok3] at h
    obtain ⟨h1, h2, h3, h4, h5, h6, rfl⟩ := h
    rw [hs, hn]
    clear hs hn
    refine ⟨fun e => absurd e (by decide), fun _ => ?_⟩
    show op32 _ _ = 3
    unfold op32
    repeat (first | rw [if_pos (by omega)] | rw [if_neg (by omega)])
  ·
    have b0 := fv_lt imm 2048 2 (by decide)
    have b1 := fv_lt imm 4096 16 (by decide)
    have b2 := fv_lt imm 256 8 (by decide)
    have b3 := fv_lt rd 1 16 (by decide)
    have b4 := fv_lt imm 1 256 (by decide)
    have hs := size4 _ _ _ _ _ _ _ h
    have hn := num4 rd rn rm ra imm cond wide
    rw [ok4] at h
    obtain ⟨h1, h2, h3, h4, h5, h6, rfl⟩ := h
    rw [hs, hn]
    clear hs hn
    refine ⟨fun e => absurd e (by decide), fun _ => ?_⟩
    show op32 _ _ = 4
    unfold op32
    repeat (first | rw [if_pos (by omega)] | rw [if_neg (by omega)])
  ·
    have b0 := fv_lt imm 4 8 (by decide)
    have b1 := fv_lt rd 1 16 (by decide)
    have b2 := fv_lt imm 1 4 (by decide)
    have b3 := fv_lt rm 1 16 (by decide)
    have hs := size5 _ _ _ _ _ _ _ h
    have hn := num5 rd rn rm ra imm cond wide
    rw [ok5] at h
    obtain ⟨h1, h2, h3, h4, h5, h6, rfl⟩ := h
    rw [hs, hn]
    clear hs hn
    refine ⟨fun e => absurd e (by decide), fun _ => ?_⟩
    show op32 _ _ = 5
    unfold op32
    repeat (first | rw [if_pos (by omega)] | rw [if_neg (by omega)])
    omega
  ·
    have b0 := fv_lt imm 4 8 (by decide)
    have b1 := fv_lt rd 1 16 (by decide)
    have b2 := fv_lt imm 1 4 (by decide)
    have b3 := fv_lt rm 1 16 (by decide)
    have hs := size6 _ _ _ _ _ _ _ h
    have hn := num6 rd rn rm ra imm cond wide
    rw [ok6] at h
    obtain ⟨h1, h2, h3, h4, h5, h6, rfl⟩ := h
    rw [hs, hn]
    clear hs hn
    refine ⟨fun e => absurd e (by decide), fun _ => ?_⟩
    show op32 _ _ = 6
    unfold op32
    repeat (first | rw [if_pos (by omega)] | rw [if_neg (by omega)])
    omega
  ·
    have b0 := fv_lt imm 4 8 (by decide)
    have b1 := fv_lt rd 1 16 (by decide)
    have b2 := fv_lt imm 1 4 (by decide)
    have b3 := fv_lt rm 1 16 (by decide)
    have hs := size7 _ _ _ _ _ _ _ h
    have hn := num7 rd rn rm ra imm cond wide
    rw [ok7] at h
    obtain ⟨h1, h2, h3, h4, h5, h6, rfl⟩ := h
    rw [hs, hn]
    clear hs hn
    refine ⟨fun e => absurd e (by decide), fun _ => ?_⟩
    show op32 _ _ = 7
    unfold op32
    repeat (first | rw [if_pos (by omega)] | rw [if_neg (by omega)])
    omega
  ·
    have b0 := fv_lt imm 4 8 (by decide)
    have b1 := fv_lt rd 1 16 (by decide)
    have b2 := fv_lt imm 1 4 (by decide)
    have b3 := fv_lt rm 1 16 (by decide)
    have hs := size8 _ _ _ _ _ _ _ h
    have hn := num8 rd rn rm ra imm cond wide
    rw [ok8] at h
    obtain ⟨h1, h2, h3, h4, h5, h6, rfl⟩ := h
    rw [hs, hn]
    clear hs hn
    refine ⟨fun e => absurd e (by decide), fun _ => ?_⟩
    show op32 _ _ = 8
    unfold op32
    repeat (first | rw [if_pos (by omega)] | rw [if_neg (by omega)])
    omega
  ·
    have b0 := fv_lt rd 1 16 (by decide)
    have b1 := fv_lt rm 1 16 (by decide)
    have hs := size9 _ _ _ _ _ _ _ h
    have hn := num9 rd rn rm ra imm cond wide
    rw [ok9] at h
    obtain ⟨h1, h2, h3, h4, h5, h6, rfl⟩ := h
    rw [hs, hn]
    clear hs hn
    refine ⟨fun e => absurd e (by decide), fun _ => ?_⟩
    show op32 _ _ = 9
    unfold op32
    repeat (first | rw [if_pos (by omega)] | rw [if_neg (by omega)])
  ·
    have b0 := fv_lt rn 1 16 (by decide)
    have b1 := fv_lt rd 1 16 (by decide)
    have b2 := fv_lt rm 1 16 (by decide)
    have hs := size10 _ _ _ _ _ _ _ h
    have hn := num10 rd rn rm ra imm cond wide
    rw [ok10] at h
    obtain ⟨h1, h2, h3, h4, h5, h6, rfl⟩ := h
    have hr : fv rn 1 16 ≤ 12 := by unfold fv; omega
    rw [hs, hn]
    clear hs hn
    refine ⟨fun e => absurd e (by decide), fun _ => ?_⟩
    show op32 _ _ = 10
    unfold op32
    repeat (first | rw [if_pos (by omega)] | rw [if_neg (by omega)])
  ·
    have b0 := fv_lt rn 1 16 (by decide)
    have b1 := fv_lt rd 1 16 (by decide)
    have b2 := fv_lt rm 1 16 (by decide)
    have hs := size11 _ _ _ _ _ _ _ h
    have hn := num11 rd rn rm ra imm cond wide
    rw [ok11] at h
    obtain ⟨h1, h2, h3, h4, h5, h6, rfl⟩ := h
    have hr : fv rn 1 16 ≤ 12 := by unfold fv; omega
    rw [hs, hn]
    clear hs hn
    refine ⟨fun e => absurd e (by decide), fun _ => ?_⟩
    show op32 _ _ = 11
    unfold op32
    repeat (first | rw [if_pos (by omega)] | rw [if_neg (by omega)])
  ·
    have b0 := fv_lt rn 1 16 (by decide)
    have b1 := fv_lt rd 1 16 (by decide)
    have b2 := fv_lt rm 1 16 (by decide)
    have hs := size12 _ _ _ _ _ _ _ h
    have hn := num12 rd rn rm ra imm cond wide
    rw [ok12] at h
    obtain ⟨h1, h2, h3, h4, h5, h6, rfl⟩ := h
    have hr : fv rn 1 16 ≤ 12 := by unfold fv; omega
    rw [hs, hn]
    clear hs hn
    refine ⟨fun e => absurd e (by decide), fun _ => ?_⟩
    show op32 _ _ = 12
    unfold op32
    repeat (first | rw [if_pos (by omega)] | rw [if_neg (by omega)])
  ·
    have b0 := fv_lt rn 1 16 (by decide)
    have b1 := fv_lt rd 1 16 (by decide)
    have b2 := fv_lt rm 1 16 (by decide)
    have hs := size13 _ _ _ _ _ _ _ h
    have hn := num13 rd rn rm ra imm cond wide
    rw [ok13] at h
    obtain ⟨h1, h2, h3, h4, h5, h6, rfl⟩ := h
    have hr : fv rn 1 16 ≤ 12 := by unfold fv; omega
    rw [hs, hn]
    clear hs hn
    refine ⟨fun e => absurd e (by decide), fun _ => ?_⟩
    show op32 _ _ = 13
    unfold op32
    repeat (first | rw [if_pos (by omega)] | rw [if_neg (by omega)])
  ·
    have b0 := fv_lt rn 1 16 (by decide)
    have b1 := fv_lt rd 1 16 (by decide)
    have b2 := fv_lt rm 1 16 (by decide)
    have hs := size14 _ _ _ _ _ _ _ h
    have hn := num14 rd rn rm ra imm cond wide
    rw [ok14] at h
    obtain ⟨h1, h2, h3, h4, h5, h6, rfl⟩ := h
    have hr : fv rn 1 16 ≤ 12 := by unfold fv; omega
    rw [hs, hn]
    clear hs hn
    refine ⟨fun e => absurd e (by decide), fun _ => ?_⟩
    show op32 _ _ = 14
    unfold op32
    repeat (first | rw [if_pos (by omega)] | rw [if_neg (by omega)])
  ·
    have b0 := fv_lt rn 1 16 (by decide)
    have b1 := fv_lt rd 1 16 (by decide)
    have b2 := fv_lt rm 1 16 (by decide)
    have hs := size15 _ _ _ _ _ _ _ h
    have hn := num15 rd rn rm ra imm cond wide
    rw [ok15] at h
    obtain ⟨h1, h2, h3, h4, h5, h6, rfl⟩ := h
    have hr : fv rn 1 16 ≤ 12 := by unfold fv; omega
    rw [hs, hn]
    clear hs hn
    refine ⟨fun e => absurd e (by decide), fun _ => ?_⟩
    show op32 _ _ = 15
    unfold op32
    repeat (first | rw [if_pos (by omega)] | rw [if_neg (by omega)])
  ·
    have b0 := fv_lt rn 1 16 (by decide)
    have b1 := fv_lt rd 1 16 (by decide)
    have b2 := fv_lt rm 1 16 (by decide)
    have hs := size16 _ _ _ _ _ _ _ h
    have hn := num16 rd rn rm ra imm cond wide
    rw [ok16] at h
    obtain ⟨h1, h2, h3, h4, h5, h6, rfl⟩ := h
    have hr : fv rn 1 16 ≤ 12 := by unfold fv; omega
    rw [hs, hn]
    clear hs hn
    refine ⟨fun e => absurd e (by decide), fun _ => ?_⟩
    show op32 _ _ = 16
    unfold op32
    repeat (first | rw [if_pos (by omega)] | rw [if_neg (by omega)])
  ·
    have b0 := fv_lt rn 1 16 (by decide)
    have b1 := fv_lt rd 1 16 (by decide)
    have b2 := fv_lt ra 1 16 (by decide)
    have b3 := fv_lt rm 1 16 (by decide)
    have hs := size17 _ _ _ _ _ _ _ h
    have hn := num17 rd rn rm ra imm cond wide
    rw [ok17] at h
    obtain ⟨h1, h2, h3, h4, h5, h6, rfl⟩ := h
    have hr : fv rn 1 16 ≤ 12 := by unfold fv; omega
    rw [hs, hn]
    clear hs hn
    refine ⟨fun e => absurd e (by decide), fun _ => ?_⟩
    show op32 _ _ = 17
    unfold op32
    repeat (first | rw [if_pos (by omega)] | rw [if_neg (by omega)])
  ·
    have b0 := fv_lt rn 1 16 (by decide)
    have b1 := fv_lt imm 4 8 (by decide)
    have b2 := fv_lt rd 1 16 (by decide)
    have b3 := fv_lt imm 1 4 (by decide)
    have b4 := fv_lt (imm + ra - 1) 1 32 (by decide)
    have hs := size18 _ _ _ _ _ _ _ h
    have hn := num18 rd rn rm ra imm cond wide
    rw [ok18] at h
    obtain ⟨h1, h2, h3, h4, h5, h6, rfl⟩ := h
    rw [hs, hn]
    clear hs hn
    refine ⟨fun e => absurd e (by decide), fun _ => ?_⟩
    show op32 _ _ = 18
    unfold op32
    repeat (first | rw [if_pos (by omega)] | rw [if_neg (by omega)])
  ·
    have b0 := fv_lt rn 1 8 (by decide)
    have b1 := fv_lt rd 1 8 (by decide)
    have hs := size19 _ _ _ _ _ _ _ h
    have hn := num19 rd rn rm ra imm cond wide
    rw [ok19] at h
    obtain ⟨h1, h2, h3, h4, h5, h6, rfl⟩ := h
    rw [hs, hn]
    clear hs hn
    refine ⟨fun _ => ?_, fun e => absurd e (by decide)⟩
    show op16 _ = 19
    unfold op16
    repeat (first | rw [if_pos (by omega)] | rw [if_neg (by omega)])
  ·
    have b0 := fv_lt rn 1 8 (by decide)
    have b1 := fv_lt rd 1 8 (by decide)
    have hs := size20 _ _ _ _ _ _ _ h
    have hn := num20 rd rn rm ra imm cond wide
    rw [ok20] at h
    obtain ⟨h1, h2, h3, h4, h5, h6, rfl⟩ := h
    rw [hs, hn]
    clear hs hn
    refine ⟨fun _ => ?_, fun e => absurd e (by decide)⟩
    show op16 _ = 20
    unfold op16
    repeat (first | rw [if_pos (by omega)] | rw [if_neg (by omega)])
  ·
    have b0 := fv_lt rn 1 8 (by decide)
    have b1 := fv_lt rd 1 8 (by decide)
    have hs := size21 _ _ _ _ _ _ _ h
    have hn := num21 rd rn rm ra imm cond wide
    rw [ok21] at h
    obtain ⟨h1, h2, h3, h4, h5, h6, rfl⟩ := h
    rw [hs, hn]
    clear hs hn
    refine ⟨fun _ => ?_, fun e => absurd e (by decide)⟩
    show op16 _ = 21
    unfold op16
    repeat (first | rw [if_pos (by omega)] | rw [if_neg (by omega)])
  ·
    have b0 := fv_lt rn 1 8 (by decide)
    have b1 := fv_lt rd 1 8 (by decide)
    have hs := size22 _ _ _ _ _ _ _ h
    have hn := num22 rd rn rm ra imm cond wide
    rw [ok22] at h
    obtain ⟨h1, h2, h3, h4, h5, h6, rfl⟩ := h
    rw [hs, hn]
    clear hs hn
    refine ⟨fun _ => ?_, fun e => absurd e (by decide)⟩
    show op16 _ = 22
    unfold op16
    repeat (first | rw [if_pos (by omega)] | rw [if_neg (by omega)])
  ·
    have b0 := fv_lt rm 1 8 (by decide)
    have b1 := fv_lt rn 1 8 (by decide)
    have hs := size23 _ _ _ _ _ _ _ h
    have hn := num23 rd rn rm ra imm cond wide
    rw [ok23] at h
    obtain ⟨h1, h2, h3, h4, h5, h6, rfl⟩ := h
    rw [hs, hn]
    clear hs hn
    refine ⟨fun _ => ?_, fun e => absurd e (by decide)⟩
    show op16 _ = 23
    unfold op16
    repeat (first | rw [if_pos (by omega)] | rw [if_neg (by omega)])
  · cases wide
    ·
      have b0 := fv_lt (off imm) 2 2048 (by decide)
      have hs := size24n _ _ _ _ _ _ h
      have hn := num24n rd rn rm ra imm cond
      rw [hs, hn]
      clear hs hn
      refine ⟨fun _ => ?_, fun e => absurd e (by decide)⟩
      show op16 _ = 24
      unfold op16
      repeat (first | rw [if_pos (by omega)] | rw [if_neg (by omega)])
    ·
      have b0 := fv_lt (off imm) 16777216 2 (by decide)
      have b1 := fv_lt (off imm) 4096 1024 (by decide)
      have b2 := fv_lt (alike (off imm) 23 24) 1 2 (by decide)
      have b3 := fv_lt (alike (off imm) 22 24) 1 2 (by decide)
      have b4 := fv_lt (off imm) 2 2048 (by decide)
      have hs := size24w _ _ _ _ _ _ h
      have hn := num24w rd rn rm ra imm cond
      rw [hs, hn]
      clear hs hn
      refine ⟨fun e => absurd e (by decide), fun _ => ?_⟩
      show op32 _ _ = 124
      unfold op32
      repeat (first | rw [if_pos (by omega)] | rw [if_neg (by omega)])
  · cases wide
    ·
      have b0 := fv_lt cond 1 16 (by decide)
      have b1 := fv_lt (off imm) 2 256 (by decide)
      have hs := size25n _ _ _ _ _ _ h
      have hn := num25n rd rn rm ra imm cond
      rw [hs, hn]
      clear hs hn
      refine ⟨fun _ => ?_, fun e => absurd e (by decide)⟩
      show op16 _ = 25
      unfold op16
      repeat (first | rw [if_pos (by omega)] | rw [if_neg (by omega)])
    ·
      have b0 := fv_lt (off imm) 1048576 2 (by decide)
      have b1 := fv_lt cond 1 16 (by decide)
      have b2 := fv_lt (off imm) 4096 64 (by decide)
      have b3 := fv_lt (off imm) 262144 2 (by decide)
      have b4 := fv_lt (off imm) 524288 2 (by decide)
      have b5 := fv_lt (off imm) 2 2048 (by decide)
      have hs := size25w _ _ _ _ _ _ h
      have hn := num25w rd rn rm ra imm cond
      rw [hs, hn]
      clear hs hn
      refine ⟨fun e => absurd e (by decide), fun _ => ?_⟩
      show op32 _ _ = 125
      unfold op32
      repeat (first | rw [if_pos (by omega)] | rw [if_neg (by omega)])
theorem alike_fv (n : Int) (a b : Nat) (p q : Nat) (hp : (2 : Int) ^ a = (p : Int)) (hq : (2 : Int) ^ b = (q : Int)) (h : 0 ≤ n) : fv (alike n a b) 1 2 = if fv n p 2 = fv n q 2 then 1 else 0 := by
  obtain ⟨x, rfl⟩ := Int.eq_ofNat_of_zero_le h
  unfold alike
  rw [hp, hq]
  have e : ((x : Int) / (p : Int) % 2 = (x : Int) / (q : Int) % 2) ↔ (fv (x : Int) p 2 = fv (x : Int) q 2) := by
    unfold fv
    rw [Int.toNat_natCast, ← Int.natCast_ediv, ← Int.natCast_ediv]
    omega
  by_cases c : fv (x : Int) p 2 = fv (x : Int) q 2
  · rw [if_pos c, if_pos (e.2 c)]; rfl
  · rw [if_neg c, if_neg (fun z => c (e.1 z))]; rfl
set_option maxHeartbeats 4000000 in
theorem inj (i k : Ins) (hi : check i = 0) (hk : check k = 0) (ho : i.op = k.op) (hw : i.wide = k.wide) (hn : num i = num k) : i = k := by
  obtain ⟨op, rd, rn, rm, ra, imm, cond, wide⟩ := i
  obtain ⟨op', rd', rn', rm', ra', imm', cond', wide'⟩ := k
  simp only at ho hw
  subst ho hw
  rcases op_cases (op_range hi) with rfl | rfl | rfl | rfl | rfl | rfl | rfl | rfl | rfl | rfl | rfl | rfl | rfl | rfl | rfl | rfl | rfl | rfl | rfl | rfl | rfl | rfl | rfl | rfl | rfl
  ·
    rw [num1, num1] at hn
    rw [ok1] at hi hk
    exact Ins.ext' rfl (show rd = rd' by omega) (show rn = rn' by omega) (show rm = rm' by omega) (show ra = ra' by omega) (show imm = imm' by omega) (show cond = cond' by omega) rfl
  ·
    have b0 := fv_lt imm 1 256 (by decide)
    have b0' := fv_lt imm' 1 256 (by decide)
    rw [num2, num2] at hn
    rw [ok2] at hi hk
    have f0 : fv imm 1 256 = fv imm' 1 256 := by omega
    have r0 : imm.toNat = 1 * fv imm 1 256 := by unfold fv; omega
    have r0' : imm'.toNat = 1 * fv imm' 1 256 := by unfold fv; omega
    exact Ins.ext' rfl (show rd = rd' by omega) (show rn = rn' by omega) (show rm = rm' by omega) (show ra = ra' by omega) (show imm = imm' by omega) (show cond = cond' by omega) rfl
  ·
    have b0 := fv_lt imm 2048 2 (by decide)
    have b0' := fv_lt imm' 2048 2 (by decide)
    have b1 := fv_lt imm 4096 16 (by decide)
    have b1' := fv_lt imm' 4096 16 (by decide)
    have b2 := fv_lt imm 256 8 (by decide)
    have b2' := fv_lt imm' 256 8 (by decide)
    have b3 := fv_lt rd 1 16 (by decide)
    have b3' := fv_lt rd' 1 16 (by decide)
    have b4 := fv_lt imm 1 256 (by decide)
    have b4' := fv_lt imm' 1 256 (by decide)
    rw [num3, num3] at hn
    rw [ok3] at hi hk
    have f0 : fv imm 2048 2 = fv imm' 2048 2 := by omega
    have f1 : fv imm 4096 16 = fv imm' 4096 16 := by omega
    have f2 : fv imm 256 8 = fv imm' 256 8 := by omega
    have f3 : fv rd 1 16 = fv rd' 1 16 := by omega
    have f4 : fv imm 1 256 = fv imm' 1 256 := by omega
    have r0 : imm.toNat = 2048 * fv imm 2048 2 + 4096 * fv imm 4096 16 + 256 * fv imm 256 8 + 1 * fv imm 1 256 := by unfold fv; omega
    have r0' : imm'.toNat = 2048 * fv imm' 2048 2 + 4096 * fv imm' 4096 16 + 256 * fv imm' 256 8 + 1 * fv imm' 1 256 := by unfold fv; omega
    have r1 : rd.toNat = 1 * fv rd 1 16 := by unfold fv; omega
    have r1' : rd'.toNat = 1 * fv rd' 1 16 := by unfold fv; omega
    exact Ins.ext' rfl (show rd = rd' by omega) (show rn = rn' by omega) (show rm = rm' by omega) (show ra = ra' by omega) (show imm = imm' by omega) (show cond = cond' by omega) rfl
  ·
    have b0 := fv_lt imm 2048 2 (by decide)
    have b0' := fv_lt imm' 2048 2 (by decide)
    have b1 := fv_lt imm 4096 16 (by decide)
    have b1' := fv_lt imm' 4096 16 (by decide)
    have b2 := fv_lt imm 256 8 (by decide)
    have b2' := fv_lt imm' 256 8 (by decide)
    have b3 := fv_lt rd 1 16 (by decide)
    have b3' := fv_lt rd' 1 16 (by decide)
    have b4 := fv_lt imm 1 256 (by decide)
    have b4' := fv_lt imm' 1 256 (by decide)
    rw [num4, num4] at hn
    rw [ok4] at hi hk
    have f0 : fv imm 2048 2 = fv imm' 2048 2 := by omega
    have f1 : fv imm 4096 16 = fv imm' 4096 16 := by omega
    have f2 : fv imm 256 8 = fv imm' 256 8 := by omega
    have f3 : fv rd 1 16 = fv rd' 1 16 := by omega
    have f4 : fv imm 1 256 = fv imm' 1 256 := by omega
    have r0 : imm.toNat = 2048 * fv imm 2048 2 + 4096 * fv imm 4096 16 + 256 * fv imm 256 8 + 1 * fv imm 1 256 := by unfold fv; omega
    have r0' : imm'.toNat = 2048 * fv imm' 2048 2 + 4096 * fv imm' 4096 16 + 256 * fv imm' 256 8 + 1 * fv imm' 1 256 := by unfold fv; omega
    have r1 : rd.toNat = 1 * fv rd 1 16 := by unfold fv; omega
    have r1' : rd'.toNat = 1 * fv rd' 1 16 := by unfold fv; omega
    exact Ins.ext' rfl (show rd = rd' by omega) (show rn = rn' by omega) (show rm = rm' by omega) (show ra = ra' by omega) (show imm = imm' by omega) (show cond = cond' by omega) rfl
  ·
    have b0 := fv_lt imm 4 8 (by decide)
    have b0' := fv_lt imm' 4 8 (by decide)
    have b1 := fv_lt rd 1 16 (by decide)
    have b1' := fv_lt rd' 1 16 (by decide)
    have b2 := fv_lt imm 1 4 (by decide)
    have b2' := fv_lt imm' 1 4 (by decide)
    have b3 := fv_lt rm 1 16 (by decide)
    have b3' := fv_lt rm' 1 16 (by decide)
    rw [num5, num5] at hn
    rw [ok5] at hi hk
    have f0 : fv imm 4 8 = fv imm' 4 8 := by omega
    have f1 : fv rd 1 16 = fv rd' 1 16 := by omega
    have f2 : fv imm 1 4 = fv imm' 1 4 := by omega
    have f3 : fv rm 1 16 = fv rm' 1 16 := by omega
    have r0 : imm.toNat = 4 * fv imm 4 8 + 1 * fv imm 1 4 := by unfold fv; omega
    have r0' : imm'.toNat = 4 * fv imm' 4 8 + 1 * fv imm' 1 4 := by unfold fv; omega
    have r1 : rd.toNat = 1 * fv rd 1 16 := by unfold fv; omega
    have r1' : rd'.toNat = 1 * fv rd' 1 16 := by unfold fv; omega
    have r2 : rm.toNat = 1 * fv rm 1 16 := by unfold fv; omega
    have r2' : rm'.toNat = 1 * fv rm' 1 16 := by unfold fv; omega
    exact Ins.ext' rfl (show rd = rd' by omega) (show rn = rn' by omega) (show rm = rm' by omega) (show ra = ra' by omega) (show imm = imm' by omega) (show cond = cond' by omega) rfl
  ·
    have b0 := fv_lt imm 4 8 (by decide)
    have b0' := fv_lt imm' 4 8 (by decide)
    have b1 := fv_lt rd 1 16 (by decide)
    have b1' := fv_lt rd' 1 16 (by decide)
    have b2 := fv_lt imm 1 4 (by decide)
    have b2' := fv_lt imm' 1 4 (by decide)
    have b3 := fv_lt rm 1 16 (by decide)
    have b3' := fv_lt rm' 1 16 (by decide)
    rw [num6, num6] at hn
    rw [ok6] at hi hk
    have f0 : fv imm 4 8 = fv imm' 4 8 := by omega
    have f1 : fv rd 1 16 = fv rd' 1 16 := by omega
    have f2 : fv imm 1 4 = fv imm' 1 4 := by omega
    have f3 : fv rm 1 16 = fv rm' 1 16 := by omega
    have r0 : imm.toNat = 4 * fv imm 4 8 + 1 * fv imm 1 4 := by unfold fv; omega
    have r0' : imm'.toNat = 4 * fv imm' 4 8 + 1 * fv imm' 1 4 := by unfold fv; omega
    have r1 : rd.toNat = 1 * fv rd 1 16 := by unfold fv; omega
    have r1' : rd'.toNat = 1 * fv rd' 1 16 := by unfold fv; omega
    have r2 : rm.toNat = 1 * fv rm 1 16 := by unfold fv; omega
    have r2' : rm'.toNat = 1 * fv rm' 1 16 := by unfold fv; omega
    exact Ins.ext' rfl (show rd = rd' by omega) (show rn = rn' by omega) (show rm = rm' by omega) (show ra = ra' by omega) (show imm = imm' by omega) (show cond = cond' by omega) rfl
  ·
    have b0 := fv_lt imm 4 8 (by decide)
    have b0' := fv_lt imm' 4 8 (by decide)
    have b1 := fv_lt rd 1 16 (by decide)
    have b1' := fv_lt rd' 1 16 (by decide)
    have b2 := fv_lt imm 1 4 (by decide)
    have b2' := fv_lt imm' 1 4 (by decide)
    have b3 := fv_lt rm 1 16 (by decide)
    have b3' := fv_lt rm' 1 16 (by decide)
    rw [num7, num7] at hn
    rw [ok7] at hi hk
    have f0 : fv imm 4 8 = fv imm' 4 8 := by omega
    have f1 : fv rd 1 16 = fv rd' 1 16 := by omega
    have f2 : fv imm 1 4 = fv imm' 1 4 := by omega
    have f3 : fv rm 1 16 = fv rm' 1 16 := by omega
    have r0 : imm.toNat = 4 * fv imm 4 8 + 1 * fv imm 1 4 := by unfold fv; omega
    have r0' : imm'.toNat = 4 * fv imm' 4 8 + 1 * fv imm' 1 4 := by unfold fv; omega
    have r1 : rd.toNat = 1 * fv rd 1 16 := by unfold fv; omega
    have r1' : rd'.toNat = 1 * fv rd' 1 16 := by unfold fv; omega
    have r2 : rm.toNat = 1 * fv rm 1 16 := by unfold fv; omega
    have r2' : rm'.toNat = 1 * fv rm' 1 16 := by unfold fv; omega
    exact Ins.ext' rfl (show rd = rd' by omega) (show rn = rn' by omega) (show rm = rm' by omega) (show ra = ra' by omega) (show imm = imm' by omega) (show cond = cond' by omega) rfl
  ·
    have b0 := fv_lt imm 4 8 (by decide)
    have b0' := fv_lt imm' 4 8 (by decide)
    have b1 := fv_lt rd 1 16 (by decide)
    have b1' := fv_lt rd' 1 16 (by decide)
    have b2 := fv_lt imm 1 4 (by decide)
    have b2' := fv_lt imm' 1 4 (by decide)
    have b3 := fv_lt rm 1 16 (by decide)
    have b3' := fv_lt rm' 1 16 (by decide)
    rw [num8, num8] at hn
    rw [ok8] at hi hk
    have f0 : fv imm 4 8 = fv imm' 4 8 := by omega
    have f1 : fv rd 1 16 = fv rd' 1 16 := by omega
    have f2 : fv imm 1 4 = fv imm' 1 4 := by omega
    have f3 : fv rm 1 16 = fv rm' 1 16 := by omega
    have r0 : imm.toNat = 4 * fv imm 4 8 + 1 * fv imm 1 4 := by unfold fv; omega
    have r0' : imm'.toNat = 4 * fv imm' 4 8 + 1 * fv imm' 1 4 := by unfold fv; omega
    have r1 : rd.toNat = 1 * fv rd 1 16 := by unfold fv; omega
    have r1' : rd'.toNat = 1 * fv rd' 1 16 := by unfold fv; omega
    have r2 : rm.toNat = 1 * fv rm 1 16 := by unfold fv; omega
    have r2' : rm'.toNat = 1 * fv rm' 1 16 := by unfold fv; omega
    exact Ins.ext' rfl (show rd = rd' by omega) (show rn = rn' by omega) (show rm = rm' by omega) (show ra = ra' by omega) (show imm = imm' by omega) (show cond = cond' by omega) rfl
  ·
    have b0 := fv_lt rd 1 16 (by decide)
    have b0' := fv_lt rd' 1 16 (by decide)
    have b1 := fv_lt rm 1 16 (by decide)
    have b1' := fv_lt rm' 1 16 (by decide)
    rw [num9, num9] at hn
    rw [ok9] at hi hk
    have f0 : fv rd 1 16 = fv rd' 1 16 := by omega
    have f1 : fv rm 1 16 = fv rm' 1 16 := by omega
    have r0 : rd.toNat = 1 * fv rd 1 16 := by unfold fv; omega
    have r0' : rd'.toNat = 1 * fv rd' 1 16 := by unfold fv; omega
    have r1 : rm.toNat = 1 * fv rm 1 16 := by unfold fv; omega
    have r1' : rm'.toNat = 1 * fv rm' 1 16 := by unfold fv; omega
    exact Ins.ext' rfl (show rd = rd' by omega) (show rn = rn' by omega) (show rm = rm' by omega) (show ra = ra' by omega) (show imm = imm' by omega) (show cond = cond' by omega) rfl
  ·
    have b0 := fv_lt rn 1 16 (by decide)
    have b0' := fv_lt rn' 1 16 (by decide)
    have b1 := fv_lt rd 1 16 (by decide)
    have b1' := fv_lt rd' 1 16 (by decide)
    have b2 := fv_lt rm 1 16 (by decide)
    have b2' := fv_lt rm' 1 16 (by decide)
    rw [num10, num10] at hn
    rw [ok10] at hi hk
    have f0 : fv rn 1 16 = fv rn' 1 16 := by omega
    have f1 : fv rd 1 16 = fv rd' 1 16 := by omega
    have f2 : fv rm 1 16 = fv rm' 1 16 := by omega
    have r0 : rn.toNat = 1 * fv rn 1 16 := by unfold fv; omega
    have r0' : rn'.toNat = 1 * fv rn' 1 16 := by unfold fv; omega
    have r1 : rd.toNat = 1 * fv rd 1 16 := by unfold fv; omega
    have r1' : rd'.toNat = 1 * fv rd' 1 16 := by unfold fv; omega
    have r2 : rm.toNat = 1 * fv rm 1 16 := by unfold fv; omega
    have r2' : rm'.toNat = 1 * fv rm' 1 16 := by unfold fv; omega
    exact Ins.ext' rfl (show rd = rd' by omega) (show rn = rn' by omega) (show rm = rm' by omega) (show ra = ra' by omega) (show imm = imm' by omega) (show cond = cond' by omega) rfl
  ·
    have b0 := fv_lt rn 1 16 (by decide)
    have b0' := fv_lt rn' 1 16 (by decide)
    have b1 := fv_lt rd 1 16 (by decide)
    have b1' := fv_lt rd' 1 16 (by decide)
    have b2 := fv_lt rm 1 16 (by decide)
    have b2' := fv_lt rm' 1 16 (by decide)
    rw [num11, num11] at hn
    rw [ok11] at hi hk
    have f0 : fv rn 1 16 = fv rn' 1 16 := by omega
    have f1 : fv rd 1 16 = fv rd' 1 16 := by omega
    have f2 : fv rm 1 16 = fv rm' 1 16 := by omega
    have r0 : rn.toNat = 1 * fv rn 1 16 := by unfold fv; omega
    have r0' : rn'.toNat = 1 * fv rn' 1 16 := by unfold fv; omega
    have r1 : rd.toNat = 1 * fv rd 1 16 := by unfold fv; omega
    have r1' : rd'.toNat = 1 * fv rd' 1 16 := by unfold fv; omega
    have r2 : rm.toNat = 1 * fv rm 1 16 := by unfold fv; omega
    have r2' : rm'.toNat = 1 * fv rm' 1 16 := by unfold fv; omega
    exact Ins.ext' rfl (show rd = rd' by omega) (show rn = rn' by omega) (show rm = rm' by omega) (show ra = ra' by omega) (show imm = imm' by omega) (show cond = cond' by omega) rfl
  ·
    have b0 := fv_lt rn 1 16 (by decide)
    have b0' := fv_lt rn' 1 16 (by decide)
    have b1 := fv_lt rd 1 16 (by decide)
    have b1' := fv_lt rd' 1 16 (by decide)
    have b2 := fv_lt rm 1 16 (by decide)
    have b2' := fv_lt rm' 1 16 (by decide)
    rw [num12, num12] at hn
    rw [ok12] at hi hk
    have f0 : fv rn 1 16 = fv rn' 1 16 := by omega
    have f1 : fv rd 1 16 = fv rd' 1 16 := by omega
    have f2 : fv rm 1 16 = fv rm' 1 16 := by omega
    have r0 : rn.toNat = 1 * fv rn 1 16 := by unfold fv; omega
    have r0' : rn'.toNat = 1 * fv rn' 1 16 := by unfold fv; omega
    have r1 : rd.toNat = 1 * fv rd 1 16 := by unfold fv; omega
    have r1' : rd'.toNat = 1 * fv rd' 1 16 := by unfold fv; omega
    have r2 : rm.toNat = 1 * fv rm 1 16 := by unfold fv; omega
    have r2' : rm'.toNat = 1 * fv rm' 1 16 := by unfold fv; omega
    exact Ins.ext' rfl (show rd = rd' by omega) (show rn = rn' by omega) (show rm = rm' by omega) (show ra = ra' by omega) (show imm = imm' by omega) (show cond = cond' by omega) rfl
  ·
    have b0 := fv_lt rn 1 16 (by decide)
    have b0' := fv_lt rn' 1 16 (by decide)
    have b1 := fv_lt rd 1 16 (by decide)
    have b1' := fv_lt rd' 1 16 (by decide)
    have b2 := fv_lt rm 1 16 (by decide)
    have b2' := fv_lt rm' 1 16 (by decide)
    rw [num13, num13] at hn
    rw [ok13] at hi hk
    have f0 : fv rn 1 16 = fv rn' 1 16 := by omega
    have f1 : fv rd 1 16 = fv rd' 1 16 := by omega
    have f2 : fv rm 1 16 = fv rm' 1 16 := by omega
    have r0 : rn.toNat = 1 * fv rn 1 16 := by unfold fv; omega
    have r0' : rn'.toNat = 1 * fv rn' 1 16 := by unfold fv; omega
    have r1 : rd.toNat = 1 * fv rd 1 16 := by unfold fv; omega
    have r1' : rd'.toNat = 1 * fv rd' 1 16 := by unfold fv; omega
    have r2 : rm.toNat = 1 * fv rm 1 16 := by unfold fv; omega
    have r2' : rm'.toNat = 1 * fv rm' 1 16 := by unfold fv; omega
    exact Ins.ext' rfl (show rd = rd' by omega) (show rn = rn' by omega) (show rm = rm' by omega) (show ra = ra' by omega) (show imm = imm' by omega) (show cond = cond' by omega) rfl
  ·
    have b0 := fv_lt rn 1 16 (by decide)
    have b0' := fv_lt rn' 1 16 (by decide)
    have b1 := fv_lt rd 1 16 (by decide)
    have b1' := fv_lt rd' 1 16 (by decide)
    have b2 := fv_lt rm 1 16 (by decide)
    have b2' := fv_lt rm' 1 16 (by decide)
    rw [num14, num14] at hn
    rw [ok14] at hi hk
    have f0 : fv rn 1 16 = fv rn' 1 16 := by omega
    have f1 : fv rd 1 16 = fv rd' 1 16 := by omega
    have f2 : fv rm 1 16 = fv rm' 1 16 := by omega
    have r0 : rn.toNat = 1 * fv rn 1 16 := by unfold fv; omega
    have r0' : rn'.toNat = 1 * fv rn' 1 16 := by unfold fv; omega
    have r1 : rd.toNat = 1 * fv rd 1 16 := by unfold fv; omega
    have r1' : rd'.toNat = 1 * fv rd' 1 16 := by unfold fv; omega
    have r2 : rm.toNat = 1 * fv rm 1 16 := by unfold fv; omega
    have r2' : rm'.toNat = 1 * fv rm' 1 16 := by unfold fv; omega
    exact Ins.ext' rfl (show rd = rd' by omega) (show rn = rn' by omega) (show rm = rm' by omega) (show ra = ra' by omega) (show imm = imm' by omega) (show cond = cond' by omega) rfl
  ·
    have b0 := fv_lt rn 1 16 (by decide)
    have b0' := fv_lt rn' 1 16 (by decide)
    have b1 := fv_lt rd 1 16 (by decide)
    have b1' := fv_lt rd' 1 16 (by decide)
    have b2 := fv_lt rm 1 16 (by decide)
    have b2' := fv_lt rm' 1 16 (by decide)
    rw [num15, num15] at hn
    rw [ok15] at hi hk
    have f0 : fv rn 1 16 = fv rn' 1 16 := by omega
    have f1 : fv rd 1 16 = fv rd' 1 16 := by omega
    have f2 : fv rm 1 16 = fv rm' 1 16 := by omega
    have r0 : rn.toNat = 1 * fv rn 1 16 := by unfold fv; omega
    have r0' : rn'.toNat = 1 * fv rn' 1 16 := by unfold fv; omega
    have r1 : rd.toNat = 1 * fv rd 1 16 := by unfold fv; omega
    have r1' : rd'.toNat = 1 * fv rd' 1 16 := by unfold fv; omega
    have r2 : rm.toNat = 1 * fv rm 1 16 := by unfold fv; omega
    have r2' : rm'.toNat = 1 * fv rm' 1 16 := by unfold fv; omega
    exact Ins.ext' rfl (show rd = rd' by omega) (show rn = rn' by omega) (show rm = rm' by omega) (show ra = ra' by omega) (show imm = imm' by omega) (show cond = cond' by omega) rfl
  ·
    have b0 := fv_lt rn 1 16 (by decide)
    have b0' := fv_lt rn' 1 16 (by decide)
    have b1 := fv_lt rd 1 16 (by decide)
    have b1' := fv_lt rd' 1 16 (by decide)
    have b2 := fv_lt rm 1 16 (by decide)
    have b2' := fv_lt rm' 1 16 (by decide)
    rw [num16, num16] at hn
    rw [ok16] at hi hk
    have f0 : fv rn 1 16 = fv rn' 1 16 := by omega
    have f1 : fv rd 1 16 = fv rd' 1 16 := by omega
    have f2 : fv rm 1 16 = fv rm' 1 16 := by omega
    have r0 : rn.toNat = 1 * fv rn 1 16 := by unfold fv; omega
    have r0' : rn'.toNat = 1 * fv rn' 1 16 := by unfold fv; omega
    have r1 : rd.toNat = 1 * fv rd 1 16 := by unfold fv; omega
    have r1' : rd'.toNat = 1 * fv rd' 1 16 := by unfold fv; omega
    have r2 : rm.toNat = 1 * fv rm 1 16 := by unfold fv; omega
    have r2' : rm'.toNat = 1 * fv rm' 1 16 := by unfold fv; omega
    exact Ins.ext' rfl (show rd = rd' by omega) (show rn = rn' by omega) (show rm = rm' by omega) (show ra = ra' by omega) (show imm = imm' by omega) (show cond = cond' by omega) rfl
  ·
    have b0 := fv_lt rn 1 16 (by decide)
    have b0' := fv_lt rn' 1 16 (by decide)
    have b1 := fv_lt rd 1 16 (by decide)
    have b1' := fv_lt rd' 1 16 (by decide)
    have b2 := fv_lt ra 1 16 (by decide)
    have b2' := fv_lt ra' 1 16 (by decide)
    have b3 := fv_lt rm 1 16 (by decide)
    have b3' := fv_lt rm' 1 16 (by decide)
    rw [num17, num17] at hn
    rw [ok17] at hi hk
    have f0 : fv rn 1 16 = fv rn' 1 16 := by omega
    have f1 : fv rd 1 16 = fv rd' 1 16 := by omega
    have f2 : fv ra 1 16 = fv ra' 1 16 := by omega
    have f3 : fv rm 1 16 = fv rm' 1 16 := by omega
    have r0 : rn.toNat = 1 * fv rn 1 16 := by unfold fv; omega
    have r0' : rn'.toNat = 1 * fv rn' 1 16 := by unfold fv; omega
    have r1 : rd.toNat = 1 * fv rd 1 16 := by unfold fv; omega
    have r1' : rd'.toNat = 1 * fv rd' 1 16 := by unfold fv; omega
    have r2 : ra.toNat = 1 * fv ra 1 16 := by unfold fv; omega
    have r2' : ra'.toNat = 1 * fv ra' 1 16 := by unfold fv; omega
    have r3 : rm.toNat = 1 * fv rm 1 16 := by unfold fv; omega
    have r3' : rm'.toNat = 1 * fv rm' 1 16 := by unfold fv; omega
    exact Ins.ext' rfl (show rd = rd' by omega) (show rn = rn' by omega) (show rm = rm' by omega) (show ra = ra' by omega) (show imm = imm' by omega) (show cond = cond' by omega) rfl
  ·
    have b0 := fv_lt rn 1 16 (by decide)
    have b0' := fv_lt rn' 1 16 (by decide)
    have b1 := fv_lt imm 4 8 (by decide)
    have b1' := fv_lt imm' 4 8 (by decide)
    have b2 := fv_lt rd 1 16 (by decide)
    have b2' := fv_lt rd' 1 16 (by decide)
    have b3 := fv_lt imm 1 4 (by decide)
    have b3' := fv_lt imm' 1 4 (by decide)
    have b4 := fv_lt (imm + ra - 1) 1 32 (by decide)
    have b4' := fv_lt (imm' + ra' - 1) 1 32 (by decide)
    rw [num18, num18] at hn
    rw [ok18] at hi hk
    have f0 : fv rn 1 16 = fv rn' 1 16 := by omega
    have f1 : fv imm 4 8 = fv imm' 4 8 := by omega
    have f2 : fv rd 1 16 = fv rd' 1 16 := by omega
    have f3 : fv imm 1 4 = fv imm' 1 4 := by omega
    have f4 : fv (imm + ra - 1) 1 32 = fv (imm' + ra' - 1) 1 32 := by omega
    have r0 : rn.toNat = 1 * fv rn 1 16 := by unfold fv; omega
    have r0' : rn'.toNat = 1 * fv rn' 1 16 := by unfold fv; omega
    have r1 : imm.toNat = 4 * fv imm 4 8 + 1 * fv imm 1 4 := by unfold fv; omega
    have r1' : imm'.toNat = 4 * fv imm' 4 8 + 1 * fv imm' 1 4 := by unfold fv; omega
    have r2 : rd.toNat = 1 * fv rd 1 16 := by unfold fv; omega
    have r2' : rd'.toNat = 1 * fv rd' 1 16 := by unfold fv; omega
    have r3 : (imm + ra - 1).toNat = 1 * fv (imm + ra - 1) 1 32 := by unfold fv; omega
    have r3' : (imm' + ra' - 1).toNat = 1 * fv (imm' + ra' - 1) 1 32 := by unfold fv; omega
    exact Ins.ext' rfl (show rd = rd' by omega) (show rn = rn' by omega) (show rm = rm' by omega) (show ra = ra' by omega) (show imm = imm' by omega) (show cond = cond' by omega) rfl
  ·
    have b0 := fv_lt rn 1 8 (by decide)
    have b0' := fv_lt rn' 1 8 (by decide)
    have b1 := fv_lt rd 1 8 (by decide)
    have b1' := fv_lt rd' 1 8 (by decide)
    rw [num19, num19] at hn
    rw [ok19] at hi hk
    have f0 : fv rn 1 8 = fv rn' 1 8 := by omega
    have f1 : fv rd 1 8 = fv rd' 1 8 := by omega
    have r0 : rn.toNat = 1 * fv rn 1 8 := by unfold fv; omega
    have r0' : rn'.toNat = 1 * fv rn' 1 8 := by unfold fv; omega
    have r1 : rd.toNat = 1 * fv rd 1 8 := by unfold fv; omega
    have r1' : rd'.toNat = 1 * fv rd' 1 8 := by unfold fv; omega
    exact Ins.ext' rfl (show rd = rd' by omega) (show rn = rn' by omega) (show rm = rm' by omega) (show ra = ra' by omega) (show imm = imm' by omega) (show cond = cond' by omega) rfl
  ·
    have b0 := fv_lt rn 1 8 (by decide)
    have b0' := fv_lt rn' 1 8 (by decide)
    have b1 := fv_lt rd 1 8 (by decide)
    have b1' := fv_lt rd' 1 8 (by decide)
    rw [num20, num20] at hn
    rw [ok20] at hi hk
    have f0 : fv rn 1 8 = fv rn' 1 8 := by omega
    have f1 : fv rd 1 8 = fv rd' 1 8 := by omega
    have r0 : rn.toNat = 1 * fv rn 1 8 := by unfold fv; omega
    have r0' : rn'.toNat = 1 * fv rn' 1 8 := by unfold fv; omega
    have r1 : rd.toNat = 1 * fv rd 1 8 := by unfold fv; omega
    have r1' : rd'.toNat = 1 * fv rd' 1 8 := by unfold fv; omega
    exact Ins.ext' rfl (show rd = rd' by omega) (show rn = rn' by omega) (show rm = rm' by omega) (show ra = ra' by omega) (show imm = imm' by omega) (show cond = cond' by omega) rfl
  ·
    have b0 := fv_lt rn 1 8 (by decide)
    have b0' := fv_lt rn' 1 8 (by decide)
    have b1 := fv_lt rd 1 8 (by decide)
    have b1' := fv_lt rd' 1 8 (by decide)
    rw [num21, num21] at hn
    rw [ok21] at hi hk
    have f0 : fv rn 1 8 = fv rn' 1 8 := by omega
    have f1 : fv rd 1 8 = fv rd' 1 8 := by omega
    have r0 : rn.toNat = 1 * fv rn 1 8 := by unfold fv; omega
    have r0' : rn'.toNat = 1 * fv rn' 1 8 := by unfold fv; omega
    have r1 : rd.toNat = 1 * fv rd 1 8 := by unfold fv; omega
    have r1' : rd'.toNat = 1 * fv rd' 1 8 := by unfold fv; omega
    exact Ins.ext' rfl (show rd = rd' by omega) (show rn = rn' by omega) (show rm = rm' by omega) (show ra = ra' by omega) (show imm = imm' by omega) (show cond = cond' by omega) rfl
  ·
    have b0 := fv_lt rn 1 8 (by decide)
    have b0' := fv_lt rn' 1 8 (by decide)
    have b1 := fv_lt rd 1 8 (by decide)
    have b1' := fv_lt rd' 1 8 (by decide)
    rw [num22, num22] at hn
    rw [ok22] at hi hk
    have f0 : fv rn 1 8 = fv rn' 1 8 := by omega
    have f1 : fv rd 1 8 = fv rd' 1 8 := by omega
    have r0 : rn.toNat = 1 * fv rn 1 8 := by unfold fv; omega
    have r0' : rn'.toNat = 1 * fv rn' 1 8 := by unfold fv; omega
    have r1 : rd.toNat = 1 * fv rd 1 8 := by unfold fv; omega
    have r1' : rd'.toNat = 1 * fv rd' 1 8 := by unfold fv; omega
    exact Ins.ext' rfl (show rd = rd' by omega) (show rn = rn' by omega) (show rm = rm' by omega) (show ra = ra' by omega) (show imm = imm' by omega) (show cond = cond' by omega) rfl
  ·
    have b0 := fv_lt rm 1 8 (by decide)
    have b0' := fv_lt rm' 1 8 (by decide)
    have b1 := fv_lt rn 1 8 (by decide)
    have b1' := fv_lt rn' 1 8 (by decide)
    rw [num23, num23] at hn
    rw [ok23] at hi hk
    have f0 : fv rm 1 8 = fv rm' 1 8 := by omega
    have f1 : fv rn 1 8 = fv rn' 1 8 := by omega
    have r0 : rm.toNat = 1 * fv rm 1 8 := by unfold fv; omega
    have r0' : rm'.toNat = 1 * fv rm' 1 8 := by unfold fv; omega
    have r1 : rn.toNat = 1 * fv rn 1 8 := by unfold fv; omega
    have r1' : rn'.toNat = 1 * fv rn' 1 8 := by unfold fv; omega
    exact Ins.ext' rfl (show rd = rd' by omega) (show rn = rn' by omega) (show rm = rm' by omega) (show ra = ra' by omega) (show imm = imm' by omega) (show cond = cond' by omega) rfl
  · cases wide
    ·
      have b0 := fv_lt (off imm) 2 2048 (by decide)
      have b0' := fv_lt (off imm') 2 2048 (by decide)
      rw [num24n, num24n] at hn
      rw [ok24] at hi hk
      have f0 : fv (off imm) 2 2048 = fv (off imm') 2 2048 := by omega
      simp at hi hk
      have r : imm = (if fv (off imm) 2 2048 < 1024 then 2 * (fv (off imm) 2 2048 : Int) else 2 * (fv (off imm) 2 2048 : Int) - 4096) := by unfold fv off; split <;> split <;> omega
      have r' : imm' = (if fv (off imm') 2 2048 < 1024 then 2 * (fv (off imm') 2 2048 : Int) else 2 * (fv (off imm') 2 2048 : Int) - 4096) := by unfold fv off; split <;> split <;> omega
      have ri : imm = imm' := by rw [r, r', f0]
      exact Ins.ext' rfl (show rd = rd' by omega) (show rn = rn' by omega) (show rm = rm' by omega) (show ra = ra' by omega) (show imm = imm' by omega) (show cond = cond' by omega) rfl
    ·
      have b0 := fv_lt (off imm) 16777216 2 (by decide)
      have b0' := fv_lt (off imm') 16777216 2 (by decide)
      have b1 := fv_lt (off imm) 4096 1024 (by decide)
      have b1' := fv_lt (off imm') 4096 1024 (by decide)
      have b2 := fv_lt (alike (off imm) 23 24) 1 2 (by decide)
      have b2' := fv_lt (alike (off imm') 23 24) 1 2 (by decide)
      have b3 := fv_lt (alike (off imm) 22 24) 1 2 (by decide)
      have b3' := fv_lt (alike (off imm') 22 24) 1 2 (by decide)
      have b4 := fv_lt (off imm) 2 2048 (by decide)
      have b4' := fv_lt (off imm') 2 2048 (by decide)
      rw [num24w, num24w] at hn
      rw [ok24] at hi hk
      have f0 : fv (off imm) 16777216 2 = fv (off imm') 16777216 2 := by omega
      have f1 : fv (off imm) 4096 1024 = fv (off imm') 4096 1024 := by omega
      have f2 : fv (alike (off imm) 23 24) 1 2 = fv (alike (off imm') 23 24) 1 2 := by omega
      have f3 : fv (alike (off imm) 22 24) 1 2 = fv (alike (off imm') 22 24) 1 2 := by omega
      have f4 : fv (off imm) 2 2048 = fv (off imm') 2 2048 := by omega
      simp at hi hk
      have ho := off_bd imm (by omega)
      have a23 := alike_fv (off imm) 23 24 8388608 16777216 (by decide) (by decide) ho.1
      have a22 := alike_fv (off imm) 22 24 4194304 16777216 (by decide) (by decide) ho.1
      have c23 := fv_lt (off imm) 8388608 2 (by decide)
      have c22 := fv_lt (off imm) 4194304 2 (by decide)
      have r : imm = 2 * (fv (off imm) 2 2048 : Int) + 4096 * (fv (off imm) 4096 1024 : Int) + 4194304 * (fv (off imm) 4194304 2 : Int) + 8388608 * (fv (off imm) 8388608 2 : Int) - 16777216 * (fv (off imm) 16777216 2 : Int) := by clear a22 a23; unfold fv off; split <;> omega
      have ho' := off_bd imm' (by omega)
      have a23' := alike_fv (off imm') 23 24 8388608 16777216 (by decide) (by decide) ho'.1
      have a22' := alike_fv (off imm') 22 24 4194304 16777216 (by decide) (by decide) ho'.1
      have c23' := fv_lt (off imm') 8388608 2 (by decide)
      have c22' := fv_lt (off imm') 4194304 2 (by decide)
      have r' : imm' = 2 * (fv (off imm') 2 2048 : Int) + 4096 * (fv (off imm') 4096 1024 : Int) + 4194304 * (fv (off imm') 4194304 2 : Int) + 8388608 * (fv (off imm') 8388608 2 : Int) - 16777216 * (fv (off imm') 16777216 2 : Int) := by clear a22 a23 a22' a23'; unfold fv off; split <;> omega
      have g23 : fv (off imm) 8388608 2 = fv (off imm') 8388608 2 := by split at a23 <;> split at a23' <;> omega
      have g22 : fv (off imm) 4194304 2 = fv (off imm') 4194304 2 := by split at a22 <;> split at a22' <;> omega
      clear a22 a22' a23 a23'
      exact Ins.ext' rfl (show rd = rd' by omega) (show rn = rn' by omega) (show rm = rm' by omega) (show ra = ra' by omega) (show imm = imm' by omega) (show cond = cond' by omega) rfl
  · cases wide
    ·
      have b0 := fv_lt cond 1 16 (by decide)
      have b0' := fv_lt cond' 1 16 (by decide)
      have b1 := fv_lt (off imm) 2 256 (by decide)
      have b1' := fv_lt (off imm') 2 256 (by decide)
      rw [num25n, num25n] at hn
      rw [ok25] at hi hk
      have f0 : fv cond 1 16 = fv cond' 1 16 := by omega
      have f1 : fv (off imm) 2 256 = fv (off imm') 2 256 := by omega
      simp at hi hk
      have r : imm = (if fv (off imm) 2 256 < 128 then 2 * (fv (off imm) 2 256 : Int) else 2 * (fv (off imm) 2 256 : Int) - 512) := by unfold fv off; split <;> split <;> omega
      have r' : imm' = (if fv (off imm') 2 256 < 128 then 2 * (fv (off imm') 2 256 : Int) else 2 * (fv (off imm') 2 256 : Int) - 512) := by unfold fv off; split <;> split <;> omega
      have ri : imm = imm' := by rw [r, r', f1]
      have rc : cond.toNat = fv cond 1 16 := by unfold fv; omega
      have rc' : cond'.toNat = fv cond' 1 16 := by unfold fv; omega
      exact Ins.ext' rfl (show rd = rd' by omega) (show rn = rn' by omega) (show rm = rm' by omega) (show ra = ra' by omega) (show imm = imm' by omega) (show cond = cond' by omega) rfl
    ·
      have b0 := fv_lt (off imm) 1048576 2 (by decide)
      have b0' := fv_lt (off imm') 1048576 2 (by decide)
      have b1 := fv_lt cond 1 16 (by decide)
      have b1' := fv_lt cond' 1 16 (by decide)
      have b2 := fv_lt (off imm) 4096 64 (by decide)
      have b2' := fv_lt (off imm') 4096 64 (by decide)
      have b3 := fv_lt (off imm) 262144 2 (by decide)
      have b3' := fv_lt (off imm') 262144 2 (by decide)
      have b4 := fv_lt (off imm) 524288 2 (by decide)
      have b4' := fv_lt (off imm') 524288 2 (by decide)
      have b5 := fv_lt (off imm) 2 2048 (by decide)
      have b5' := fv_lt (off imm') 2 2048 (by decide)
      rw [num25w, num25w] at hn
      rw [ok25] at hi hk
      have f0 : fv (off imm) 1048576 2 = fv (off imm') 1048576 2 := by omega
      have f1 : fv cond 1 16 = fv cond' 1 16 := by omega
      have f2 : fv (off imm) 4096 64 = fv (off imm') 4096 64 := by omega
      have f3 : fv (off imm) 262144 2 = fv (off imm') 262144 2 := by omega
      have f4 : fv (off imm) 524288 2 = fv (off imm') 524288 2 := by omega
      have f5 : fv (off imm) 2 2048 = fv (off imm') 2 2048 := by omega
      simp at hi hk
      have r : imm = 2 * (fv (off imm) 2 2048 : Int) + 4096 * (fv (off imm) 4096 64 : Int) + 262144 * (fv (off imm) 262144 2 : Int) + 524288 * (fv (off imm) 524288 2 : Int) - 1048576 * (fv (off imm) 1048576 2 : Int) := by unfold fv off; split <;> omega
      have r' : imm' = 2 * (fv (off imm') 2 2048 : Int) + 4096 * (fv (off imm') 4096 64 : Int) + 262144 * (fv (off imm') 262144 2 : Int) + 524288 * (fv (off imm') 524288 2 : Int) - 1048576 * (fv (off imm') 1048576 2 : Int) := by unfold fv off; split <;> omega
      have rc : cond.toNat = fv cond 1 16 := by unfold fv; omega
      have rc' : cond'.toNat = fv cond' 1 16 := by unfold fv; omega
      exact Ins.ext' rfl (show rd = rd' by omega) (show rn = rn' by omega) (show rm = rm' by omega) (show ra = ra' by omega) (show imm = imm' by omega) (show cond = cond' by omega) rfl
end Go.Proofs.Ytplfpaffjaldoaa.Th
end
section
namespace Go.Proofs.Ytplfpaffjaldoaa.Th
open Go.RowKit

theorem size2_lt (i : Ins) (h : check i = 0) (hz : size i = 2) : num i < 59392 := by
  obtain ⟨op, rd, rn, rm, ra, imm, cond, wide⟩ := i
  rcases op_cases (op_range h) with rfl | rfl | rfl | rfl | rfl | rfl | rfl | rfl | rfl | rfl | rfl | rfl | rfl | rfl | rfl | rfl | rfl | rfl | rfl | rfl | rfl | rfl | rfl | rfl | rfl
  ·
    rw [num1]; omega
  ·
    have b0 := fv_lt imm 1 256 (by decide)
    rw [num2]; omega
  · rw [size3 _ _ _ _ _ _ _ h] at hz; exact absurd hz (by decide)
  · rw [size4 _ _ _ _ _ _ _ h] at hz; exact absurd hz (by decide)
  · rw [size5 _ _ _ _ _ _ _ h] at hz; exact absurd hz (by decide)
  · rw [size6 _ _ _ _ _ _ _ h] at hz; exact absurd hz (by decide)
  · rw [size7 _ _ _ _ _ _ _ h] at hz; exact absurd hz (by decide)
  · rw [size8 _ _ _ _ _ _ _ h] at hz; exact absurd hz (by decide)
  · rw [size9 _ _ _ _ _ _ _ h] at hz; exact absurd hz (by decide)
  · rw [size10 _ _ _ _ _ _ _ h] at hz; exact absurd hz (by decide)
  · rw [size11 _ _ _ _ _ _ _ h] at hz; exact absurd hz (by decide)
  · rw [size12 _ _ _ _ _ _ _ h] at hz; exact absurd hz (by decide)
  · rw [size13 _ _ _ _ _ _ _ h] at hz; exact absurd hz (by decide)
  · rw [size14 _ _ _ _ _ _ _ h] at hz; exact absurd hz (by decide)
  · rw [size15 _ _ _ _ _ _ _ h] at hz; exact absurd hz (by decide)
  · rw [size16 _ _ _ _ _ _ _ h] at hz; exact absurd hz (by decide)
  · rw [size17 _ _ _ _ _ _ _ h] at hz; exact absurd hz (by decide)
  · rw [size18 _ _ _ _ _ _ _ h] at hz; exact absurd hz (by decide)
  ·
    have b0 := fv_lt rn 1 8 (by decide)
    have b1 := fv_lt rd 1 8 (by decide)
    rw [num19]; omega
  ·
    have b0 := fv_lt rn 1 8 (by decide)
    have b1 := fv_lt rd 1 8 (by decide)
    rw [num20]; omega
  ·
    have b0 := fv_lt rn 1 8 (by decide)
    have b1 := fv_lt rd 1 8 (by decide)
    rw [num21]; omega
  ·
    have b0 := fv_lt rn 1 8 (by decide)
    have b1 := fv_lt rd 1 8 (by decide)
    rw [num22]; omega
  ·
    have b0 := fv_lt rm 1 8 (by decide)
    have b1 := fv_lt rn 1 8 (by decide)
    rw [num23]; omega
  · cases wide
    ·
      have b0 := fv_lt (off imm) 2 2048 (by decide)
      rw [num24n]; omega
    · rw [size24w _ _ _ _ _ _ h] at hz; exact absurd hz (by decide)
  · cases wide
    ·
      have b0 := fv_lt cond 1 16 (by decide)
      have b1 := fv_lt (off imm) 2 256 (by decide)
      rw [num25n]; omega
    · rw [size25w _ _ _ _ _ _ h] at hz; exact absurd hz (by decide)
theorem opOf_inj (i k : Ins) (hi : check i = 0) (hk : check k = 0) (h : opOf i = opOf k) : i.op = k.op ∧ i.wide = k.wide := by
  have h1 := op_range hi
  have h2 := op_range hk
  unfold opOf at h
  cases hw : i.wide <;> cases hv : k.wide <;> simp [hw, hv] at h ⊢ <;> omega
theorem like22 (i k : Ins) (hi : check i = 0) (hk : check k = 0) (si : size i = 2) (sk : size k = 2) (h : num i = num k) : i = k := by
  have e1 := (op_told i hi).1 si
  have e2 := (op_told k hk).1 sk
  rw [h, e2] at e1
  obtain ⟨ho, hw⟩ := opOf_inj k i hk hi e1
  exact inj i k hi hk ho.symm hw.symm h
theorem like44 (i k : Ins) (hi : check i = 0) (hk : check k = 0) (si : size i = 4) (sk : size k = 4) (h : num i = num k) : i = k := by
  have e1 := (op_told i hi).2 si
  have e2 := (op_told k hk).2 sk
  rw [h, e2] at e1
  obtain ⟨ho, hw⟩ := opOf_inj k i hk hi e1
  exact inj i k hi hk ho.symm hw.symm h
def by0 (n : Nat) : UInt8 := UInt8.ofNat ((n : Int) % 256).toNat
def by1 (n : Nat) : UInt8 := UInt8.ofNat ((n : Int) / 256).toNat
def b40 (n : Nat) : UInt8 := UInt8.ofNat ((n : Int) / 65536 % 256).toNat
def b41 (n : Nat) : UInt8 := UInt8.ofNat ((n : Int) / 16777216).toNat
def b42 (n : Nat) : UInt8 := UInt8.ofNat ((n : Int) % 256).toNat
def b43 (n : Nat) : UInt8 := UInt8.ofNat ((n : Int) / 256 % 256).toNat
theorem str2_is (n : Nat) : str2 n = ⟨#[by0 n, by1 n]⟩ := rfl
theorem str4_is (n : Nat) : str4 n = ⟨#[b40 n, b41 n, b42 n, b43 n]⟩ := rfl
theorem u8_inj {a b : Nat} (ha : a < 256) (hb : b < 256) (h : UInt8.ofNat a = UInt8.ofNat b) : a = b := by
  have := congrArg UInt8.toNat h
  rw [UInt8.toNat_ofNat', UInt8.toNat_ofNat', Nat.mod_eq_of_lt ha, Nat.mod_eq_of_lt hb] at this
  exact this
theorem ne22 (i k : Ins) (hi : check i = 0) (hk : check k = 0) (si : size i = 2) (sk : size k = 2) (h : i ≠ k) : (by0 (num i) == by0 (num k) && by1 (num i) == by1 (num k)) = false := by
  rw [Bool.eq_false_iff]
  intro e
  rw [Bool.and_eq_true, beq_iff_eq, beq_iff_eq] at e
  have l1 := size2_lt i hi si
  have l2 := size2_lt k hk sk
  have e1 := u8_inj (by omega) (by omega) e.1
  have e2 := u8_inj (by omega) (by omega) e.2
  exact h (like22 i k hi hk si sk (by omega))
theorem num4_bd (i : Ins) (hi : check i = 0) (si : size i = 4) : 3892314112 ≤ num i ∧ num i < 4294967296 := by
  rcases size_num i hi with ⟨h, _⟩ | ⟨_, h⟩
  · rw [si] at h; exact absurd h (by decide)
  · exact h
theorem ne44 (i k : Ins) (hi : check i = 0) (hk : check k = 0) (si : size i = 4) (sk : size k = 4) (h : i ≠ k) :
    (b40 (num i) == b40 (num k) && (b41 (num i) == b41 (num k) && (b42 (num i) == b42 (num k) && b43 (num i) == b43 (num k)))) = false := by
  rw [Bool.eq_false_iff]
  intro e
  simp only [Bool.and_eq_true, beq_iff_eq] at e
  have l1 := num4_bd i hi si
  have l2 := num4_bd k hk sk
  obtain ⟨e1, e2, e3, e4⟩ := e
  have e1 := u8_inj (by omega) (by omega) e1
  have e2 := u8_inj (by omega) (by omega) e2
  have e3 := u8_inj (by omega) (by omega) e3
  have e4 := u8_inj (by omega) (by omega) e4
  exact h (like44 i k hi hk si sk (by omega))
theorem ne24 (i k : Ins) (hi : check i = 0) (hk : check k = 0) (si : size i = 2) (sk : size k = 4) : (by0 (num i) == b40 (num k) && by1 (num i) == b41 (num k)) = false := by
  rw [Bool.eq_false_iff]
  intro e
  rw [Bool.and_eq_true, beq_iff_eq, beq_iff_eq] at e
  have l1 := size2_lt i hi si
  have l2 := num4_bd k hk sk
  have e1 := u8_inj (by omega) (by omega) e.1
  have e2 := u8_inj (by omega) (by omega) e.2
  omega
theorem ne42 (i k : Ins) (hi : check i = 0) (hk : check k = 0) (si : size i = 4) (sk : size k = 2) : (b40 (num i) == by0 (num k) && b41 (num i) == by1 (num k)) = false := by
  rw [Bool.eq_false_iff]
  intro e
  rw [Bool.and_eq_true, beq_iff_eq, beq_iff_eq] at e
  have l1 := num4_bd i hi si
  have l2 := size2_lt k hk sk
  have e1 := u8_inj (by omega) (by omega) e.1
  have e2 := u8_inj (by omega) (by omega) e.2
  omega
theorem encS2 (i : Ins) (hi : check i = 0) (si : size i = 2) : encS i = ⟨#[by0 (num i), by1 (num i)]⟩ := by
  unfold encS; rw [if_pos hi, if_pos si]; rfl
theorem encS4 (i : Ins) (hi : check i = 0) (si : size i = 4) : encS i = ⟨#[b40 (num i), b41 (num i), b42 (num i), b43 (num i)]⟩ := by
  unfold encS; rw [if_pos hi, if_neg (by rw [si]; decide)]; rfl
end Go.Proofs.Ytplfpaffjaldoaa.Th
end
section
namespace Go.Proofs.Ytplfpaffjaldoaa.Th
open Go.RowKit

def rmore (op : Int) : ByteArray :=
  if op == 13 then ⟨#[49, 49, 49, 48, 49, 48, 49, 48, 49, 48, 48, 48, 110, 110, 110, 110, 48, 48, 48, 48, 100, 100, 100, 100, 48, 48, 48, 48, 109, 109, 109, 109]⟩ else
  if op == 14 then ⟨#[49, 49, 49, 48, 49, 48, 49, 49, 48, 48, 48, 48, 110, 110, 110, 110, 48, 48, 48, 48, 100, 100, 100, 100, 48, 48, 48, 48, 109, 109, 109, 109]⟩ else
  if op == 15 then ⟨#[49, 49, 49, 48, 49, 48, 49, 49, 49, 48, 49, 48, 110, 110, 110, 110, 48, 48, 48, 48, 100, 100, 100, 100, 48, 48, 48, 48, 109, 109, 109, 109]⟩ else
  if op == 16 then ⟨#[49, 49, 49, 49, 49, 48, 49, 49, 48, 48, 48, 48, 110, 110, 110, 110, 49, 49, 49, 49, 100, 100, 100, 100, 48, 48, 48, 48, 109, 109, 109, 109]⟩ else
  if op == 17 then ⟨#[49, 49, 49, 49, 49, 48, 49, 49, 49, 48, 49, 48, 110, 110, 110, 110, 100, 100, 100, 100, 97, 97, 97, 97, 48, 48, 48, 48, 109, 109, 109, 109]⟩ else
  if op == 18 then ⟨#[49, 49, 49, 49, 48, 48, 49, 49, 48, 49, 49, 48, 110, 110, 110, 110, 48, 69, 68, 67, 100, 100, 100, 100, 66, 65, 48, 119, 119, 119, 119, 119]⟩ else
  if op == 19 then ⟨#[48, 49, 49, 48, 49, 48, 48, 48, 48, 48, 110, 110, 110, 100, 100, 100]⟩ else
  if op == 20 then ⟨#[48, 49, 49, 48, 48, 48, 48, 48, 48, 48, 110, 110, 110, 100, 100, 100]⟩ else
  if op == 21 then ⟨#[48, 49, 49, 49, 49, 48, 48, 48, 48, 48, 110, 110, 110, 100, 100, 100]⟩ else
  if op == 22 then ⟨#[48, 49, 49, 49, 48, 48, 48, 48, 48, 48, 110, 110, 110, 100, 100, 100]⟩ else
  if op == 23 then ⟨#[48, 49, 48, 48, 48, 48, 49, 48, 49, 48, 109, 109, 109, 110, 110, 110]⟩ else
  if op == 24 then ⟨#[49, 49, 49, 48, 48, 76, 75, 74, 73, 72, 71, 70, 69, 68, 67, 66]⟩ else
  if op == 25 then ⟨#[49, 49, 48, 49, 99, 99, 99, 99, 73, 72, 71, 70, 69, 68, 67, 66]⟩ else
  ⟨#[]⟩
def rbits (op : Int) (wide : Bool) : ByteArray :=
  if wide then (if op == 24 then ⟨#[49, 49, 49, 49, 48, 89, 86, 85, 84, 83, 82, 81, 80, 79, 78, 77, 49, 48, 120, 49, 121, 76, 75, 74, 73, 72, 71, 70, 69, 68, 67, 66]⟩ else if op == 25 then ⟨#[49, 49, 49, 49, 48, 85, 99, 99, 99, 99, 82, 81, 80, 79, 78, 77, 49, 48, 83, 48, 84, 76, 75, 74, 73, 72, 71, 70, 69, 68, 67, 66]⟩ else ⟨#[]⟩) else
  if op == 1 then ⟨#[49, 48, 49, 49, 49, 49, 49, 49, 48, 48, 48, 48, 48, 48, 48, 48]⟩ else
  if op == 2 then ⟨#[49, 48, 49, 49, 49, 49, 49, 48, 72, 71, 70, 69, 68, 67, 66, 65]⟩ else
  if op == 3 then ⟨#[49, 49, 49, 49, 48, 76, 49, 48, 48, 49, 48, 48, 80, 79, 78, 77, 48, 75, 74, 73, 100, 100, 100, 100, 72, 71, 70, 69, 68, 67, 66, 65]⟩ else
  if op == 4 then ⟨#[49, 49, 49, 49, 48, 76, 49, 48, 49, 49, 48, 48, 80, 79, 78, 77, 48, 75, 74, 73, 100, 100, 100, 100, 72, 71, 70, 69, 68, 67, 66, 65]⟩ else
  if op == 5 then ⟨#[49, 49, 49, 48, 49, 48, 49, 48, 48, 49, 48, 48, 49, 49, 49, 49, 48, 69, 68, 67, 100, 100, 100, 100, 66, 65, 48, 48, 109, 109, 109, 109]⟩ else
  if op == 6 then ⟨#[49, 49, 49, 48, 49, 48, 49, 48, 48, 49, 48, 48, 49, 49, 49, 49, 48, 69, 68, 67, 100, 100, 100, 100, 66, 65, 48, 49, 109, 109, 109, 109]⟩ else
  if op == 7 then ⟨#[49, 49, 49, 48, 49, 48, 49, 48, 48, 49, 48, 48, 49, 49, 49, 49, 48, 69, 68, 67, 100, 100, 100, 100, 66, 65, 49, 48, 109, 109, 109, 109]⟩ else
  if op == 8 then ⟨#[49, 49, 49, 48, 49, 48, 49, 48, 48, 49, 48, 48, 49, 49, 49, 49, 48, 69, 68, 67, 100, 100, 100, 100, 66, 65, 49, 49, 109, 109, 109, 109]⟩ else
  if op == 9 then ⟨#[49, 49, 49, 48, 49, 48, 49, 48, 48, 49, 49, 48, 49, 49, 49, 49, 48, 48, 48, 48, 100, 100, 100, 100, 48, 48, 48, 48, 109, 109, 109, 109]⟩ else
  if op == 10 then ⟨#[49, 49, 49, 48, 49, 48, 49, 48, 48, 48, 48, 48, 110, 110, 110, 110, 48, 48, 48, 48, 100, 100, 100, 100, 48, 48, 48, 48, 109, 109, 109, 109]⟩ else
  if op == 11 then ⟨#[49, 49, 49, 48, 49, 48, 49, 48, 48, 48, 49, 48, 110, 110, 110, 110, 48, 48, 48, 48, 100, 100, 100, 100, 48, 48, 48, 48, 109, 109, 109, 109]⟩ else
  if op == 12 then ⟨#[49, 49, 49, 48, 49, 48, 49, 48, 48, 49, 48, 48, 110, 110, 110, 110, 48, 48, 48, 48, 100, 100, 100, 100, 48, 48, 48, 48, 109, 109, 109, 109]⟩ else
  rmore op
def rhas (s : ByteArray) (c : Int) : Bool := s.data.toList.any fun b => (b.toNat : Int) == c
def rreg (s : ByteArray) (c n : Int) : Bool := if rhas s c then decide (0 ≤ n) && decide (n ≤ if s.size = 16 then 7 else 12) else n == 0
def rnumber (op imm : Int) : Bool :=
  if op == 2 then decide (0 ≤ imm) && decide (imm ≤ 255)
  else if op == 3 || op == 4 then decide (0 ≤ imm) && decide (imm ≤ 65535)
  else if op == 5 || op == 18 then decide (0 ≤ imm) && decide (imm ≤ 31)
  else if op == 6 || op == 7 || op == 8 then decide (1 ≤ imm) && decide (imm ≤ 31)
  else if op == 24 || op == 25 then true
  else decide (0 ≤ imm) && decide (imm ≤ 0)
end Go.Proofs.Ytplfpaffjaldoaa.Th
end
section
namespace Go.Proofs.Ytplfpaffjaldoaa.Th
open Go.RowKit

def rchain (i : Ins) : Bool := rnumber i.op i.imm && rreg (rbits i.op i.wide) 100 i.rd && rreg (rbits i.op i.wide) 110 i.rn && rreg (rbits i.op i.wide) 109 i.rm && rreg (rbits i.op i.wide) 97 (if i.op == 18 then 0 else i.ra)
def rextra (i : Ins) : Bool :=
  if i.op == 18 then decide (1 ≤ i.ra) && decide (i.ra ≤ 32 - i.imm) && i.cond == 0
  else if i.op == 17 then i.ra != i.rd && i.cond == 0
  else if i.op == 25 then decide (0 ≤ i.cond) && decide (i.cond ≤ 13)
  else i.cond == 0
theorem rreg_y (s : ByteArray) (c n M : Int) (h : rhas s c = true) (hM : (if s.size = 16 then (7 : Int) else 12) = M) : rreg s c n = (decide (0 ≤ n) && decide (n ≤ M)) := by
  unfold rreg; rw [h, hM]; rfl
theorem rreg_n (s : ByteArray) (c n : Int) (h : rhas s c = false) : rreg s c n = (n == 0) := by
  unfold rreg; rw [h]; rfl
theorem known_no (op rd ra : Int) (h : ¬ (1 ≤ op ∧ op ≤ 25)) : known op rd ra = false := by
  cases e : known op rd ra
  · rfl
  · exact absurd (known_op e) h
theorem rbits_no (op : Int) (wide : Bool) (h : ¬ (1 ≤ op ∧ op ≤ 25)) : rbits op wide = ⟨#[]⟩ := by
  have e : ∀ k : Int, 1 ≤ k → k ≤ 25 → (op == k) = false := fun k h1 h2 => by rw [beq_eq_false_iff_ne]; omega
  unfold rbits rmore
  cases wide <;> simp [e]
theorem fits_chain (i : Ins) : (rbits i.op i.wide = ⟨#[]⟩ ∧ fits i = false) ∨ (¬ (rbits i.op i.wide).toList = [] ∧ (rbits i.op i.wide).size ≤ 64 ∧ fits i = (rchain i && rextra i)) := by
  obtain ⟨op, rd, rn, rm, ra, imm, cond, wide⟩ := i
  by_cases h : 1 ≤ op ∧ op ≤ 25
  case neg => exact .inl ⟨rbits_no op wide h, by simp [fits, known_no op rd ra h]⟩
  rcases op_cases h with rfl | rfl | rfl | rfl | rfl | rfl | rfl | rfl | rfl | rfl | rfl | rfl | rfl | rfl | rfl | rfl | rfl | rfl | rfl | rfl | rfl | rfl | rfl | rfl | rfl
  · cases wide
    ·
      have r0 := rreg_n (rbits 1 false) 100 rd (by decide)
      have r1 := rreg_n (rbits 1 false) 110 rn (by decide)
      have r2 := rreg_n (rbits 1 false) 109 rm (by decide)
      have r3 := rreg_n (rbits 1 false) 97 ra (by decide)
      refine .inr ⟨(show ¬ (rbits 1 false).toList = [] from by rw [ByteArray.toList_eq]; decide), (show (rbits 1 false).size ≤ 64 from by decide), ?_⟩
      show fits ⟨1, rd, rn, rm, ra, imm, cond, false⟩ = (rnumber 1 imm && rreg (rbits 1 false) 100 rd && rreg (rbits 1 false) 110 rn && rreg (rbits 1 false) 109 rm && rreg (rbits 1 false) 97 ra && rextra ⟨1, rd, rn, rm, ra, imm, cond, false⟩)
      rw [r0, r1, r2, r3]
      clear r0 r1 r2 r3
      rw [Bool.eq_iff_iff]
      simp [fits, known, within, most, least, none0, rnumber, rextra]
      omega
    · exact .inl ⟨rfl, by simp [fits, within, most, none0]⟩
  · cases wide
    ·
      have r0 := rreg_n (rbits 2 false) 100 rd (by decide)
      have r1 := rreg_n (rbits 2 false) 110 rn (by decide)
      have r2 := rreg_n (rbits 2 false) 109 rm (by decide)
      have r3 := rreg_n (rbits 2 false) 97 ra (by decide)
      refine .inr ⟨(show ¬ (rbits 2 false).toList = [] from by rw [ByteArray.toList_eq]; decide), (show (rbits 2 false).size ≤ 64 from by decide), ?_⟩
      show fits ⟨2, rd, rn, rm, ra, imm, cond, false⟩ = (rnumber 2 imm && rreg (rbits 2 false) 100 rd && rreg (rbits 2 false) 110 rn && rreg (rbits 2 false) 109 rm && rreg (rbits 2 false) 97 ra && rextra ⟨2, rd, rn, rm, ra, imm, cond, false⟩)
      rw [r0, r1, r2, r3]
      clear r0 r1 r2 r3
      rw [Bool.eq_iff_iff]
      simp [fits, known, within, most, least, none0, rnumber, rextra]
      omega
    · exact .inl ⟨rfl, by simp [fits, within, most, none0]⟩
  · cases wide
    ·
      have r0 := rreg_y (rbits 3 false) 100 rd 12 (by decide) (by decide)
      have r1 := rreg_n (rbits 3 false) 110 rn (by decide)
      have r2 := rreg_n (rbits 3 false) 109 rm (by decide)
      have r3 := rreg_n (rbits 3 false) 97 ra (by decide)
      refine .inr ⟨(show ¬ (rbits 3 false).toList = [] from by rw [ByteArray.toList_eq]; decide), (show (rbits 3 false).size ≤ 64 from by decide), ?_⟩
      show fits ⟨3, rd, rn, rm, ra, imm, cond, false⟩ = (rnumber 3 imm && rreg (rbits 3 false) 100 rd && rreg (rbits 3 false) 110 rn && rreg (rbits 3 false) 109 rm && rreg (rbits 3 false) 97 ra && rextra ⟨3, rd, rn, rm, ra, imm, cond, false⟩)
      rw [r0, r1, r2, r3]
      clear r0 r1 r2 r3
      rw [Bool.eq_iff_iff]
      simp [fits, known, within, most, least, none0, rnumber, rextra]
      omega
    · exact .inl ⟨rfl, by simp [fits, within, most, none0]⟩
  · cases wide
    ·
      have r0 := rreg_y (rbits 4 false) 100 rd 12 (by decide) (by decide)
      have r1 := rreg_n (rbits 4 false) 110 rn (by decide)
      have r2 := rreg_n (rbits 4 false) 109 rm (by decide)
      have r3 := rreg_n (rbits 4 false) 97 ra (by decide)
      refine .inr ⟨(show ¬ (rbits 4 false).toList = [] from by rw [ByteArray.toList_eq]; decide), (show (rbits 4 false).size ≤ 64 from by decide), ?_⟩
      show fits ⟨4, rd, rn, rm, ra, imm, cond, false⟩ = (rnumber 4 imm && rreg (rbits 4 false) 100 rd && rreg (rbits 4 false) 110 rn && rreg (rbits 4 false) 109 rm && rreg (rbits 4 false) 97 ra && rextra ⟨4, rd, rn, rm, ra, imm, cond, false⟩)
      rw [r0, r1, r2, r3]
      clear r0 r1 r2 r3
      rw [Bool.eq_iff_iff]
      simp [fits, known, within, most, least, none0, rnumber, rextra]
      omega
    · exact .inl ⟨rfl, by simp [fits, within, most, none0]⟩
  · cases wide
    ·
      have r0 := rreg_y (rbits 5 false) 100 rd 12 (by decide) (by decide)
      have r1 := rreg_n (rbits 5 false) 110 rn (by decide)
      have r2 := rreg_y (rbits 5 false) 109 rm 12 (by decide) (by decide)
      have r3 := rreg_n (rbits 5 false) 97 ra (by decide)
      refine .inr ⟨(show ¬ (rbits 5 false).toList = [] from by rw [ByteArray.toList_eq]; decide), (show (rbits 5 false).size ≤ 64 from by decide), ?_⟩
      show fits ⟨5, rd, rn, rm, ra, imm, cond, false⟩ = (rnumber 5 imm && rreg (rbits 5 false) 100 rd && rreg (rbits 5 false) 110 rn && rreg (rbits 5 false) 109 rm && rreg (rbits 5 false) 97 ra && rextra ⟨5, rd, rn, rm, ra, imm, cond, false⟩)
      rw [r0, r1, r2, r3]
      clear r0 r1 r2 r3
      rw [Bool.eq_iff_iff]
      simp [fits, known, within, most, least, none0, rnumber, rextra]
      omega
    · exact .inl ⟨rfl, by simp [fits, within, most, none0]⟩
  · cases wide
    ·
      have r0 := rreg_y (rbits 6 false) 100 rd 12 (by decide) (by decide)
      have r1 := rreg_n (rbits 6 false) 110 rn (by decide)
      have r2 := rreg_y (rbits 6 false) 109 rm 12 (by decide) (by decide)
      have r3 := rreg_n (rbits 6 false) 97 ra (by decide)
      refine .inr ⟨(show ¬ (rbits 6 false).toList = [] from by rw [ByteArray.toList_eq]; decide), (show (rbits 6 false).size ≤ 64 from by decide), ?_⟩
      show fits ⟨6, rd, rn, rm, ra, imm, cond, false⟩ = (rnumber 6 imm && rreg (rbits 6 false) 100 rd && rreg (rbits 6 false) 110 rn && rreg (rbits 6 false) 109 rm && rreg (rbits 6 false) 97 ra && rextra ⟨6, rd, rn, rm, ra, imm, cond, false⟩)
      rw [r0, r1, r2, r3]
      clear r0 r1 r2 r3
      rw [Bool.eq_iff_iff]
      simp [fits, known, within, most, least, none0, rnumber, rextra]
      omega
    · exact .inl ⟨rfl, by simp [fits, within, most, none0]⟩
  · cases wide
    ·
      have r0 := rreg_y (rbits 7 false) 100 rd 12 (by decide) (by decide)
      have r1 := rreg_n (rbits 7 false) 110 rn (by decide)
      have r2 := rreg_y (rbits 7 false) 109 rm 12 (by decide) (by decide)
      have r3 := rreg_n (rbits 7 false) 97 ra (by decide)
      refine .inr ⟨(show ¬ (rbits 7 false).toList = [] from by rw [ByteArray.toList_eq]; decide), (show (rbits 7 false).size ≤ 64 from by decide), ?_⟩
      show fits ⟨7, rd, rn, rm, ra, imm, cond, false⟩ = (rnumber 7 imm && rreg (rbits 7 false) 100 rd && rreg (rbits 7 false) 110 rn && rreg (rbits 7 false) 109 rm && rreg (rbits 7 false) 97 ra && rextra ⟨7, rd, rn, rm, ra, imm, cond, false⟩)
      rw [r0, r1, r2, r3]
      clear r0 r1 r2 r3
      rw [Bool.eq_iff_iff]
      simp [fits, known, within, most, least, none0, rnumber, rextra]
      omega
    · exact .inl ⟨rfl, by simp [fits, within, most, none0]⟩
  · cases wide
    ·
      have r0 := rreg_y (rbits 8 false) 100 rd 12 (by decide) (by decide)
      have r1 := rreg_n (rbits 8 false) 110 rn (by decide)
      have r2 := rreg_y (rbits 8 false) 109 rm 12 (by decide) (by decide)
      have r3 := rreg_n (rbits 8 false) 97 ra (by decide)
      refine .inr ⟨(show ¬ (rbits 8 false).toList = [] from by rw [ByteArray.toList_eq]; decide), (show (rbits 8 false).size ≤ 64 from by decide), ?_⟩
      show fits ⟨8, rd, rn, rm, ra, imm, cond, false⟩ = (rnumber 8 imm && rreg (rbits 8 false) 100 rd && rreg (rbits 8 false) 110 rn && rreg (rbits 8 false) 109 rm && rreg (rbits 8 false) 97 ra && rextra ⟨8, rd, rn, rm, ra, imm, cond, false⟩)
      rw [r0, r1, r2, r3]
      clear r0 r1 r2 r3
      rw [Bool.eq_iff_iff]
      simp [fits, known, within, most, least, none0, rnumber, rextra]
      omega
    · exact .inl ⟨rfl, by simp [fits, within, most, none0]⟩
  · cases wide
    ·
      have r0 := rreg_y (rbits 9 false) 100 rd 12 (by decide) (by decide)
      have r1 := rreg_n (rbits 9 false) 110 rn (by decide)
      have r2 := rreg_y (rbits 9 false) 109 rm 12 (by decide) (by decide)
      have r3 := rreg_n (rbits 9 false) 97 ra (by decide)
      refine .inr ⟨(show ¬ (rbits 9 false).toList = [] from by rw [ByteArray.toList_eq]; decide), (show (rbits 9 false).size ≤ 64 from by decide), ?_⟩
      show fits ⟨9, rd, rn, rm, ra, imm, cond, false⟩ = (rnumber 9 imm && rreg (rbits 9 false) 100 rd && rreg (rbits 9 false) 110 rn && rreg (rbits 9 false) 109 rm && rreg (rbits 9 false) 97 ra && rextra ⟨9, rd, rn, rm, ra, imm, cond, false⟩)
      rw [r0, r1, r2, r3]
      clear r0 r1 r2 r3
      rw [Bool.eq_iff_iff]
      simp [fits, known, within, most, least, none0, rnumber, rextra]
      omega
    · exact .inl ⟨rfl, by simp [fits, within, most, none0]⟩
  · cases wide
    ·
      have r0 := rreg_y (rbits 10 false) 100 rd 12 (by decide) (by decide)
      have r1 := rreg_y (rbits 10 false) 110 rn 12 (by decide) (by decide)
      have r2 := rreg_y (rbits 10 false) 109 rm 12 (by decide) (by decide)
      have r3 := rreg_n (rbits 10 false) 97 ra (by decide)
      refine .inr ⟨(show ¬ (rbits 10 false).toList = [] from by rw [ByteArray.toList_eq]; decide), (show (rbits 10 false).size ≤ 64 from by decide), ?_⟩
      show fits ⟨10, rd, rn, rm, ra, imm, cond, false⟩ = (rnumber 10 imm && rreg (rbits 10 false) 100 rd && rreg (rbits 10 false) 110 rn && rreg (rbits 10 false) 109 rm && rreg (rbits 10 false) 97 ra && rextra ⟨10, rd, rn, rm, ra, imm, cond, false⟩)
      rw [r0, r1, r2, r3]
      clear r0 r1 r2 r3
      rw [Bool.eq_iff_iff]
      simp [fits, known, within, most, least, none0, rnumber, rextra]
      omega
    · exact .inl ⟨rfl, by simp [fits, within, most, none0]⟩
  · cases wide
    ·
      have r0 := rreg_y (rbits 11 false) 100 rd 12 (by decide) (by decide)
      have r1 := rreg_y (rbits 11 false) 110 rn 12 (by decide) (by decide)
      have r2 := rreg_y (rbits 11 false) 109 rm 12 (by decide) (by decide)
      have r3 := rreg_n (rbits 11 false) 97 ra (by decide)
      refine .inr ⟨(show ¬ (rbits 11 false).toList = [] from by rw [ByteArray.toList_eq]; decide), (show (rbits 11 false).size ≤ 64 from by decide), ?_⟩
      show fits ⟨11, rd, rn, rm, ra, imm, cond, false⟩ = (rnumber 11 imm && rreg (rbits 11 false) 100 rd && rreg (rbits 11 false) 110 rn && rreg (rbits 11 false) 109 rm && rreg (rbits 11 false) 97 ra && rextra ⟨11, rd, rn, rm, ra, imm, cond, false⟩)
      rw [r0, r1, r2, r3]
      clear r0 r1 r2 r3
      rw [Bool.eq_iff_iff]
      simp [fits, known, within, most, least, none0, rnumber, rextra]
      omega
    · exact .inl ⟨rfl, by simp [fits, within, most, none0]⟩
  · cases wide
    ·
      have r0 := rreg_y (rbits 12 false) 100 rd 12 (by decide) (by decide)
      have r1 := rreg_y (rbits 12 false) 110 rn 12 (by decide) (by decide)
      have r2 := rreg_y (rbits 12 false) 109 rm 12 (by decide) (by decide)
      have r3 := rreg_n (rbits 12 false) 97 ra (by decide)
      refine .inr ⟨(show ¬ (rbits 12 false).toList = [] from by rw [ByteArray.toList_eq]; decide), (show (rbits 12 false).size ≤ 64 from by decide), ?_⟩
      show fits ⟨12, rd, rn, rm, ra, imm, cond, false⟩ = (rnumber 12 imm && rreg (rbits 12 false) 100 rd && rreg (rbits 12 false) 110 rn && rreg (rbits 12 false) 109 rm && rreg (rbits 12 false) 97 ra && rextra ⟨12, rd, rn, rm, ra, imm, cond, false⟩)
      rw [r0, r1, r2, r3]
      clear r0 r1 r2 r3
      rw [Bool.eq_iff_iff]
      simp [fits, known, within, most, least, none0, rnumber, rextra]
      omega
    · exact .inl ⟨rfl, by simp [fits, within, most, none0]⟩
  · cases wide
    ·
      have r0 := rreg_y (rbits 13 false) 100 rd 12 (by decide) (by decide)
      have r1 := rreg_y (rbits 13 false) 110 rn 12 (by decide) (by decide)
      have r2 := rreg_y (rbits 13 false) 109 rm 12 (by decide) (by decide)
      have r3 := rreg_n (rbits 13 false) 97 ra (by decide)
      refine .inr ⟨(show ¬ (rbits 13 false).toList = [] from by rw [ByteArray.toList_eq]; decide), (show (rbits 13 false).size ≤ 64 from by decide), ?_⟩
      show fits ⟨13, rd, rn, rm, ra, imm, cond, false⟩ = (rnumber 13 imm && rreg (rbits 13 false) 100 rd && rreg (rbits 13 false) 110 rn && rreg (rbits 13 false) 109 rm && rreg (rbits 13 false) 97 ra && rextra ⟨13, rd, rn, rm, ra, imm, cond, false⟩)
      rw [r0, r1, r2, r3]
      clear r0 r1 r2 r3
      rw [Bool.eq_iff_iff]
      simp [fits, known, within, most, least, none0, rnumber, rextra]
      omega
    · exact .inl ⟨rfl, by simp [fits, within, most, none0]⟩
  · cases wide
    ·
      have r0 := rreg_y (rbits 14 false) 100 rd 12 (by decide) (by decide)
      have r1 := rreg_y (rbits 14 false) 110 rn 12 (by decide) (by decide)
      have r2 := rreg_y (rbits 14 false) 109 rm 12 (by decide) (by decide)
      have r3 := rreg_n (rbits 14 false) 97 ra (by decide)
      refine .inr ⟨(show ¬ (rbits 14 false).toList = [] from by rw [ByteArray.toList_eq]; decide), (show (rbits 14 false).size ≤ 64 from by decide), ?_⟩
      show fits ⟨14, rd, rn, rm, ra, imm, cond, false⟩ = (rnumber 14 imm && rreg (rbits 14 false) 100 rd && rreg (rbits 14 false) 110 rn && rreg (rbits 14 false) 109 rm && rreg (rbits 14 false) 97 ra && rextra ⟨14, rd, rn, rm, ra, imm, cond, false⟩)
      rw [r0, r1, r2, r3]
      clear r0 r1 r2 r3
      rw [Bool.eq_iff_iff]
      simp [fits, known, within, most, least, none0, rnumber, rextra]
      omega
    · exact .inl ⟨rfl, by simp [fits, within, most, none0]⟩
  · cases wide
    ·
      have r0 := rreg_y (rbits 15 false) 100 rd 12 (by decide) (by decide)
      have r1 := rreg_y (rbits 15 false) 110 rn 12 (by decide) (by decide)
      have r2 := rreg_y (rbits 15 false) 109 rm 12 (by decide) (by decide)
      have r3 := rreg_n (rbits 15 false) 97 ra (by decide)
      refine .inr ⟨(show ¬ (rbits 15 false).toList = [] from by rw [ByteArray.toList_eq]; decide), (show (rbits 15 false).size ≤ 64 from by decide), ?_⟩
      show fits ⟨15, rd, rn, rm, ra, imm, cond, false⟩ = (rnumber 15 imm && rreg (rbits 15 false) 100 rd && rreg (rbits 15 false) 110 rn && rreg (rbits 15 false) 109 rm && rreg (rbits 15 false) 97 ra && rextra ⟨15, rd, rn, rm, ra, imm, cond, false⟩)
      rw [r0, r1, r2, r3]
      clear r0 r1 r2 r3
      rw [Bool.eq_iff_iff]
      simp [fits, known, within, most, least, none0, rnumber, rextra]
      omega
    · exact .inl ⟨rfl, by simp [fits, within, most, none0]⟩
  · cases wide
    ·
      have r0 := rreg_y (rbits 16 false) 100 rd 12 (by decide) (by decide)
      have r1 := rreg_y (rbits 16 false) 110 rn 12 (by decide) (by decide)
      have r2 := rreg_y (rbits 16 false) 109 rm 12 (by decide) (by decide)
      have r3 := rreg_n (rbits 16 false) 97 ra (by decide)
      refine .inr ⟨(show ¬ (rbits 16 false).toList = [] from by rw [ByteArray.toList_eq]; decide), (show (rbits 16 false).size ≤ 64 from by decide), ?_⟩
      show fits ⟨16, rd, rn, rm, ra, imm, cond, false⟩ = (rnumber 16 imm && rreg (rbits 16 false) 100 rd && rreg (rbits 16 false) 110 rn && rreg (rbits 16 false) 109 rm && rreg (rbits 16 false) 97 ra && rextra ⟨16, rd, rn, rm, ra, imm, cond, false⟩)
      rw [r0, r1, r2, r3]
      clear r0 r1 r2 r3
      rw [Bool.eq_iff_iff]
      simp [fits, known, within, most, least, none0, rnumber, rextra]
      omega
    · exact .inl ⟨rfl, by simp [fits, within, most, none0]⟩
  · cases wide
    ·
      have r0 := rreg_y (rbits 17 false) 100 rd 12 (by decide) (by decide)
      have r1 := rreg_y (rbits 17 false) 110 rn 12 (by decide) (by decide)
      have r2 := rreg_y (rbits 17 false) 109 rm 12 (by decide) (by decide)
      have r3 := rreg_y (rbits 17 false) 97 ra 12 (by decide) (by decide)
      refine .inr ⟨(show ¬ (rbits 17 false).toList = [] from by rw [ByteArray.toList_eq]; decide), (show (rbits 17 false).size ≤ 64 from by decide), ?_⟩
      show fits ⟨17, rd, rn, rm, ra, imm, cond, false⟩ = (rnumber 17 imm && rreg (rbits 17 false) 100 rd && rreg (rbits 17 false) 110 rn && rreg (rbits 17 false) 109 rm && rreg (rbits 17 false) 97 ra && rextra ⟨17, rd, rn, rm, ra, imm, cond, false⟩)
      rw [r0, r1, r2, r3]
      clear r0 r1 r2 r3
      rw [Bool.eq_iff_iff]
      simp [fits, known, within, most, least, none0, rnumber, rextra]
      omega
    · exact .inl ⟨rfl, by simp [fits, within, most, none0]⟩
  · cases wide
    ·
      have r0 := rreg_y (rbits 18 false) 100 rd 12 (by decide) (by decide)
      have r1 := rreg_y (rbits 18 false) 110 rn 12 (by decide) (by decide)
      have r2 := rreg_n (rbits 18 false) 109 rm (by decide)
      have r3 := rreg_n (rbits 18 false) 97 0 (by decide)
      refine .inr ⟨(show ¬ (rbits 18 false).toList = [] from by rw [ByteArray.toList_eq]; decide), (show (rbits 18 false).size ≤ 64 from by decide), ?_⟩
      show fits ⟨18, rd, rn, rm, ra, imm, cond, false⟩ = (rnumber 18 imm && rreg (rbits 18 false) 100 rd && rreg (rbits 18 false) 110 rn && rreg (rbits 18 false) 109 rm && rreg (rbits 18 false) 97 0 && rextra ⟨18, rd, rn, rm, ra, imm, cond, false⟩)
      rw [r0, r1, r2, r3]
      clear r0 r1 r2 r3
      rw [Bool.eq_iff_iff]
      simp [fits, known, within, most, least, none0, rnumber, rextra]
      by_cases hi : 0 ≤ imm ∧ imm ≤ 31
      · rw [Wd.wrap64_in _ (by omega) (by omega)]; omega
      · omega
    · exact .inl ⟨rfl, by simp [fits, within, most, none0]⟩
  · cases wide
    ·
      have r0 := rreg_y (rbits 19 false) 100 rd 7 (by decide) (by decide)
      have r1 := rreg_y (rbits 19 false) 110 rn 7 (by decide) (by decide)
      have r2 := rreg_n (rbits 19 false) 109 rm (by decide)
      have r3 := rreg_n (rbits 19 false) 97 ra (by decide)
      refine .inr ⟨(show ¬ (rbits 19 false).toList = [] from by rw [ByteArray.toList_eq]; decide), (show (rbits 19 false).size ≤ 64 from by decide), ?_⟩
      show fits ⟨19, rd, rn, rm, ra, imm, cond, false⟩ = (rnumber 19 imm && rreg (rbits 19 false) 100 rd && rreg (rbits 19 false) 110 rn && rreg (rbits 19 false) 109 rm && rreg (rbits 19 false) 97 ra && rextra ⟨19, rd, rn, rm, ra, imm, cond, false⟩)
      rw [r0, r1, r2, r3]
      clear r0 r1 r2 r3
      rw [Bool.eq_iff_iff]
      simp [fits, known, within, most, least, none0, rnumber, rextra]
      omega
    · exact .inl ⟨rfl, by simp [fits, within, most, none0]⟩
  · cases wide
    ·
      have r0 := rreg_y (rbits 20 false) 100 rd 7 (by decide) (by decide)
      have r1 := rreg_y (rbits 20 false) 110 rn 7 (by decide) (by decide)
      have r2 := rreg_n (rbits 20 false) 109 rm (by decide)
      have r3 := rreg_n (rbits 20 false) 97 ra (by decide)
      refine .inr ⟨(show ¬ (rbits 20 false).toList = [] from by rw [ByteArray.toList_eq]; decide), (show (rbits 20 false).size ≤ 64 from by decide), ?_⟩
      show fits ⟨20, rd, rn, rm, ra, imm, cond, false⟩ = (rnumber 20 imm && rreg (rbits 20 false) 100 rd && rreg (rbits 20 false) 110 rn && rreg (rbits 20 false) 109 rm && rreg (rbits 20 false) 97 ra && rextra ⟨20, rd, rn, rm, ra, imm, cond, false⟩)
      rw [r0, r1, r2, r3]
      clear r0 r1 r2 r3
      rw [Bool.eq_iff_iff]
      simp [fits, known, within, most, least, none0, rnumber, rextra]
      omega
    · exact .inl ⟨rfl, by simp [fits, within, most, none0]⟩
  · cases wide
    ·
      have r0 := rreg_y (rbits 21 false) 100 rd 7 (by decide) (by decide)
      have r1 := rreg_y (rbits 21 false) 110 rn 7 (by decide) (by decide)
      have r2 := rreg_n (rbits 21 false) 109 rm (by decide)
      have r3 := rreg_n (rbits 21 false) 97 ra (by decide)
      refine .inr ⟨(show ¬ (rbits 21 false).toList = [] from by rw [ByteArray.toList_eq]; decide), (show (rbits 21 false).size ≤ 64 from by decide), ?_⟩
      show fits ⟨21, rd, rn, rm, ra, imm, cond, false⟩ = (rnumber 21 imm && rreg (rbits 21 false) 100 rd && rreg (rbits 21 false) 110 rn && rreg (rbits 21 false) 109 rm && rreg (rbits 21 false) 97 ra && rextra ⟨21, rd, rn, rm, ra, imm, cond, false⟩)
      rw [r0, r1, r2, r3]
      clear r0 r1 r2 r3
      rw [Bool.eq_iff_iff]
      simp [fits, known, within, most, least, none0, rnumber, rextra]
      omega
    · exact .inl ⟨rfl, by simp [fits, within, most, none0]⟩
  · cases wide
    ·
      have r0 := rreg_y (rbits 22 false) 100 rd 7 (by decide) (by decide)
      have r1 := rreg_y (rbits 22 false) 110 rn 7 (by decide) (by decide)
      have r2 := rreg_n (rbits 22 false) 109 rm (by decide)
      have r3 := rreg_n (rbits 22 false) 97 ra (by decide)
      refine .inr ⟨(show ¬ (rbits 22 false).toList = [] from by rw [ByteArray.toList_eq]; decide), (show (rbits 22 false).size ≤ 64 from by decide), ?_⟩
      show fits ⟨22, rd, rn, rm, ra, imm, cond, false⟩ = (rnumber 22 imm && rreg (rbits 22 false) 100 rd && rreg (rbits 22 false) 110 rn && rreg (rbits 22 false) 109 rm && rreg (rbits 22 false) 97 ra && rextra ⟨22, rd, rn, rm, ra, imm, cond, false⟩)
      rw [r0, r1, r2, r3]
      clear r0 r1 r2 r3
      rw [Bool.eq_iff_iff]
      simp [fits, known, within, most, least, none0, rnumber, rextra]
      omega
    · exact .inl ⟨rfl, by simp [fits, within, most, none0]⟩
  · cases wide
    ·
      have r0 := rreg_n (rbits 23 false) 100 rd (by decide)
      have r1 := rreg_y (rbits 23 false) 110 rn 7 (by decide) (by decide)
      have r2 := rreg_y (rbits 23 false) 109 rm 7 (by decide) (by decide)
      have r3 := rreg_n (rbits 23 false) 97 ra (by decide)
      refine .inr ⟨(show ¬ (rbits 23 false).toList = [] from by rw [ByteArray.toList_eq]; decide), (show (rbits 23 false).size ≤ 64 from by decide), ?_⟩
      show fits ⟨23, rd, rn, rm, ra, imm, cond, false⟩ = (rnumber 23 imm && rreg (rbits 23 false) 100 rd && rreg (rbits 23 false) 110 rn && rreg (rbits 23 false) 109 rm && rreg (rbits 23 false) 97 ra && rextra ⟨23, rd, rn, rm, ra, imm, cond, false⟩)
      rw [r0, r1, r2, r3]
      clear r0 r1 r2 r3
      rw [Bool.eq_iff_iff]
      simp [fits, known, within, most, least, none0, rnumber, rextra]
      omega
    · exact .inl ⟨rfl, by simp [fits, within, most, none0]⟩
  · cases wide
    ·
      have r0 := rreg_n (rbits 24 false) 100 rd (by decide)
      have r1 := rreg_n (rbits 24 false) 110 rn (by decide)
      have r2 := rreg_n (rbits 24 false) 109 rm (by decide)
      have r3 := rreg_n (rbits 24 false) 97 ra (by decide)
      refine .inr ⟨(show ¬ (rbits 24 false).toList = [] from by rw [ByteArray.toList_eq]; decide), (show (rbits 24 false).size ≤ 64 from by decide), ?_⟩
      show fits ⟨24, rd, rn, rm, ra, imm, cond, false⟩ = (rnumber 24 imm && rreg (rbits 24 false) 100 rd && rreg (rbits 24 false) 110 rn && rreg (rbits 24 false) 109 rm && rreg (rbits 24 false) 97 ra && rextra ⟨24, rd, rn, rm, ra, imm, cond, false⟩)
      rw [r0, r1, r2, r3]
      clear r0 r1 r2 r3
      rw [Bool.eq_iff_iff]
      simp [fits, known, within, most, least, none0, rnumber, rextra]
      omega
    ·
      have r0 := rreg_n (rbits 24 true) 100 rd (by decide)
      have r1 := rreg_n (rbits 24 true) 110 rn (by decide)
      have r2 := rreg_n (rbits 24 true) 109 rm (by decide)
      have r3 := rreg_n (rbits 24 true) 97 ra (by decide)
      refine .inr ⟨(show ¬ (rbits 24 true).toList = [] from by rw [ByteArray.toList_eq]; decide), (show (rbits 24 true).size ≤ 64 from by decide), ?_⟩
      show fits ⟨24, rd, rn, rm, ra, imm, cond, true⟩ = (rnumber 24 imm && rreg (rbits 24 true) 100 rd && rreg (rbits 24 true) 110 rn && rreg (rbits 24 true) 109 rm && rreg (rbits 24 true) 97 ra && rextra ⟨24, rd, rn, rm, ra, imm, cond, true⟩)
      rw [r0, r1, r2, r3]
      clear r0 r1 r2 r3
      rw [Bool.eq_iff_iff]
      simp [fits, known, within, most, least, none0, rnumber, rextra]
      omega
  · cases wide
    ·
      have r0 := rreg_n (rbits 25 false) 100 rd (by decide)
      have r1 := rreg_n (rbits 25 false) 110 rn (by decide)
      have r2 := rreg_n (rbits 25 false) 109 rm (by decide)
      have r3 := rreg_n (rbits 25 false) 97 ra (by decide)
      refine .inr ⟨(show ¬ (rbits 25 false).toList = [] from by rw [ByteArray.toList_eq]; decide), (show (rbits 25 false).size ≤ 64 from by decide), ?_⟩
      show fits ⟨25, rd, rn, rm, ra, imm, cond, false⟩ = (rnumber 25 imm && rreg (rbits 25 false) 100 rd && rreg (rbits 25 false) 110 rn && rreg (rbits 25 false) 109 rm && rreg (rbits 25 false) 97 ra && rextra ⟨25, rd, rn, rm, ra, imm, cond, false⟩)
      rw [r0, r1, r2, r3]
      clear r0 r1 r2 r3
      rw [Bool.eq_iff_iff]
      simp [fits, known, within, most, least, none0, rnumber, rextra]
      omega
    ·
      have r0 := rreg_n (rbits 25 true) 100 rd (by decide)
      have r1 := rreg_n (rbits 25 true) 110 rn (by decide)
      have r2 := rreg_n (rbits 25 true) 109 rm (by decide)
      have r3 := rreg_n (rbits 25 true) 97 ra (by decide)
      refine .inr ⟨(show ¬ (rbits 25 true).toList = [] from by rw [ByteArray.toList_eq]; decide), (show (rbits 25 true).size ≤ 64 from by decide), ?_⟩
      show fits ⟨25, rd, rn, rm, ra, imm, cond, true⟩ = (rnumber 25 imm && rreg (rbits 25 true) 100 rd && rreg (rbits 25 true) 110 rn && rreg (rbits 25 true) 109 rm && rreg (rbits 25 true) 97 ra && rextra ⟨25, rd, rn, rm, ra, imm, cond, true⟩)
      rw [r0, r1, r2, r3]
      clear r0 r1 r2 r3
      rw [Bool.eq_iff_iff]
      simp [fits, known, within, most, least, none0, rnumber, rextra]
      omega
end Go.Proofs.Ytplfpaffjaldoaa.Th
end
section
namespace Go.Proofs.Ytplfpaffjaldoaa.Th
open Go.RowKit
set_option linter.unusedVariables false

def rbit (x : Int) (n : Nat) : Nat := x.toNat / 2 ^ n % 2
def rfield (i : Ins) (c : UInt8) (f : Nat) : Nat :=
  if c == 48 then 0 else if c == 49 then 1 else if c == 100 then rbit i.rd f else if c == 110 then rbit i.rn f else if c == 109 then rbit i.rm f
  else if c == 97 then rbit i.ra f else if c == 99 then rbit i.cond f else if c == 119 then rbit (i.imm + i.ra - 1) f
  else if c == 120 then 1 - (rbit (off i.imm) 23 + rbit (off i.imm) 24) % 2 else if c == 121 then 1 - (rbit (off i.imm) 22 + rbit (off i.imm) 24) % 2
  else rbit (off i.imm) (c.toNat - 65)
def rrun (c : UInt8) : List UInt8 → Nat
  | [] => 0
  | x :: t => if x == c then rrun c t + 1 else 0
def rhalf (i : Ins) : Nat → List UInt8 → Nat
  | n, [] => n
  | n, c :: t => rhalf i (2 * n + rfield i c (rrun c t)) t
/-- k bits of x, from bit lo + k - 1 down to bit lo, behind A -/
def bd (x : Int) : Nat → Nat → Nat → Nat
  | _, 0, A => A
  | lo, k + 1, A => 2 * bd x (lo + 1) k A + x.toNat / 2 ^ lo % 2
theorem bd_eq (x : Int) : ∀ k lo A, bd x lo k A = A * 2 ^ k + x.toNat / 2 ^ lo % 2 ^ k := by
  intro k
  induction k with
  | zero => intro lo A; simp [bd, Nat.mod_one]
  | succ k ih =>
    intro lo A
    have e : x.toNat / 2 ^ (lo + 1) = x.toNat / 2 ^ lo / 2 := by rw [Nat.pow_succ, Nat.div_div_eq_div_mul]
    have e2 := Nat.mod_mul (x := x.toNat / 2 ^ lo) (a := 2) (b := 2 ^ k)
    rw [bd, ih, e, Nat.pow_succ, Nat.mul_comm (2 ^ k) 2, e2, Nat.mul_add, ← Nat.mul_assoc, ← Nat.mul_assoc, Nat.mul_comm 2 A]
    omega
theorem bdl (x : Int) (lo k A r q : Nat) (hr : 2 ^ lo = r) (hq : 2 ^ k = q) : bd x lo k A = A * q + fv x r q := by
  subst hr; subst hq; exact bd_eq x k lo A
theorem off_pos (imm : Int) (h : 0 ≤ imm) : off imm = imm := by unfold off; rw [if_neg (by omega)]
theorem half1 (rd rn rm ra imm cond : Int) (hi : 0 ≤ imm) : rhalf ⟨1, rd, rn, rm, ra, imm, cond, false⟩ 0 [49, 48, 49, 49, 49, 49, 49, 49, 48, 48, 48, 48, 48, 48, 48, 48] = num ⟨1, rd, rn, rm, ra, imm, cond, false⟩ := by
  have g0 : rhalf ⟨1, rd, rn, rm, ra, imm, cond, false⟩ 0 [49, 48, 49, 49, 49, 49, 49, 49, 48, 48, 48, 48, 48, 48, 48, 48] = num ⟨1, rd, rn, rm, ra, imm, cond, false⟩ := by
    show (2 * (2 * (2 * (2 * (2 * (2 * (2 * (2 * (2 * (2 * (2 * (2 * (2 * (2 * (2 * (2 * 0 + 1) + 0) + 1) + 1) + 1) + 1) + 1) + 1) + 0) + 0) + 0) + 0) + 0) + 0) + 0) + 0) = _
    rw [num1]
  exact g0
theorem half2 (rd rn rm ra imm cond : Int) (hi : 0 ≤ imm) : rhalf ⟨2, rd, rn, rm, ra, imm, cond, false⟩ 0 [49, 48, 49, 49, 49, 49, 49, 48, 72, 71, 70, 69, 68, 67, 66, 65] = num ⟨2, rd, rn, rm, ra, imm, cond, false⟩ := by
  have b0 := fv_lt imm 1 256 (by decide)
  have g0 : rhalf ⟨2, rd, rn, rm, ra, imm, cond, false⟩ 0 [49, 48, 49, 49, 49, 49, 49, 48, 72, 71, 70, 69, 68, 67, 66, 65] = num ⟨2, rd, rn, rm, ra, imm, cond, false⟩ := by
    show (bd (off imm) 0 8 (2 * (2 * (2 * (2 * (2 * (2 * (2 * (2 * 0 + 1) + 0) + 1) + 1) + 1) + 1) + 1) + 0)) = _
    rw [bdl (off imm) 0 8 _ 1 256 (by decide) (by decide)]
    rw [off_pos imm (by omega)]
    rw [num2]
    omega
  exact g0
theorem half3 (rd rn rm ra imm cond : Int) (hi : 0 ≤ imm) : rhalf ⟨3, rd, rn, rm, ra, imm, cond, false⟩ 0 [49, 49, 49, 49, 48, 76, 49, 48, 48, 49, 48, 48, 80, 79, 78, 77] = num ⟨3, rd, rn, rm, ra, imm, cond, false⟩ / 65536 ∧ rhalf ⟨3, rd, rn, rm, ra, imm, cond, false⟩ 0 [48, 75, 74, 73, 100, 100, 100, 100, 72, 71, 70, 69, 68, 67, 66, 65] = num ⟨3, rd, rn, rm, ra, imm, cond, false⟩ % 65536 := by
  have b0 := fv_lt imm 2048 2 (by decide)
  have b1 := fv_lt imm 4096 16 (by decide)
  have b2 := fv_lt imm 256 8 (by decide)
  have b3 := fv_lt rd 1 16 (by decide)
  have b4 := fv_lt imm 1 256 (by decide)
  have g0 : rhalf ⟨3, rd, rn, rm, ra, imm, cond, false⟩ 0 [49, 49, 49, 49, 48, 76, 49, 48, 48, 49, 48, 48, 80, 79, 78, 77] = num ⟨3, rd, rn, rm, ra, imm, cond, false⟩ / 65536 := by
    show (bd (off imm) 12 4 (2 * (2 * (2 * (2 * (2 * (2 * (bd (off imm) 11 1 (2 * (2 * (2 * (2 * (2 * 0 + 1) + 1) + 1) + 1) + 0)) + 1) + 0) + 0) + 1) + 0) + 0)) = _
    rw [bdl (off imm) 12 4 _ 4096 16 (by decide) (by decide)]
    rw [bdl (off imm) 11 1 _ 2048 2 (by decide) (by decide)]
    rw [off_pos imm (by omega)]
    rw [num3]
    omega
  have g1 : rhalf ⟨3, rd, rn, rm, ra, imm, cond, false⟩ 0 [48, 75, 74, 73, 100, 100, 100, 100, 72, 71, 70, 69, 68, 67, 66, 65] = num ⟨3, rd, rn, rm, ra, imm, cond, false⟩ % 65536 := by
    show (bd (off imm) 0 8 (bd rd 0 4 (bd (off imm) 8 3 (2 * 0 + 0)))) = _
    rw [bdl (off imm) 0 8 _ 1 256 (by decide) (by decide)]
    rw [bdl rd 0 4 _ 1 16 (by decide) (by decide)]
    rw [bdl (off imm) 8 3 _ 256 8 (by decide) (by decide)]
    rw [off_pos imm (by omega)]
    rw [num3]
    omega
  exact ⟨g0, g1⟩
theorem half4 (rd rn rm ra imm cond : Int) (hi : 0 ≤ imm) : rhalf ⟨4, rd, rn, rm, ra, imm, cond, false⟩ 0 [49, 49, 49, 49, 48, 76, 49, 48, 49, 49, 48, 48, 80, 79, 78, 77] = num ⟨4, rd, rn, rm, ra, imm, cond, false⟩ / 65536 ∧ rhalf ⟨4, rd, rn, rm, ra, imm, cond, false⟩ 0 [48, 75, 74, 73, 100, 100, 100, 100, 72, 71, 70, 69, 68, 67, 66, 65] = num ⟨4, rd, rn, rm, ra, imm, cond, false⟩ % 65536 := by
  have b0 := fv_lt imm 2048 2 (by decide)
  have b1 := fv_lt imm 4096 16 (by decide)
  have b2 := fv_lt imm 256 8 (by decide)
  have b3 := fv_lt rd 1 16 (by decide)
  have b4 := fv_lt imm 1 256 (by decide)
  have g0 : rhalf ⟨4, rd, rn, rm, ra, imm, cond, false⟩ 0 [49, 49, 49, 49, 48, 76, 49, 48, 49, 49, 48, 48, 80, 79, 78, 77] = num ⟨4, rd, rn, rm, ra, imm, cond, false⟩ / 65536 := by
    show (bd (off imm) 12 4 (2 * (2 * (2 * (2 * (2 * (2 * (bd (off imm) 11 1 (2 * (2 * (2 * (2 * (2 * 0 + 1) + 1) + 1) + 1) + 0)) + 1) + 0) + 1) + 1) + 0) + 0)) = _
    rw [bdl (off imm) 12 4 _ 4096 16 (by decide) (by decide)]
    rw [bdl (off imm) 11 1 _ 2048 2 (by decide) (by decide)]
    rw [off_pos imm (by omega)]
    rw [num4]
    omega
  have g1 : rhalf ⟨4, rd, rn, rm, ra, imm, cond, false⟩ 0 [48, 75, 74, 73, 100, 100, 100, 100, 72, 71, 70, 69, 68, 67, 66, 65] = num ⟨4, rd, rn, rm, ra, imm, cond, false⟩ % 65536 := by
    show (bd (off imm) 0 8 (bd rd 0 4 (bd (off imm) 8 3 (2 * 0 + 0)))) = _
    rw [bdl (off imm) 0 8 _ 1 256 (by decide) (by decide)]
    rw [bdl rd 0 4 _ 1 16 (by decide) (by decide)]
    rw [bdl (off imm) 8 3 _ 256 8 (by decide) (by decide)]
    rw [off_pos imm (by omega)]
    rw [num4]
    omega
  exact ⟨g0, g1⟩
theorem half5 (rd rn rm ra imm cond : Int) (hi : 0 ≤ imm) : rhalf ⟨5, rd, rn, rm, ra, imm, cond, false⟩ 0 [49, 49, 49, 48, 49, 48, 49, 48, 48, 49, 48, 48, 49, 49, 49, 49] = num ⟨5, rd, rn, rm, ra, imm, cond, false⟩ / 65536 ∧ rhalf ⟨5, rd, rn, rm, ra, imm, cond, false⟩ 0 [48, 69, 68, 67, 100, 100, 100, 100, 66, 65, 48, 48, 109, 109, 109, 109] = num ⟨5, rd, rn, rm, ra, imm, cond, false⟩ % 65536 := by
  have b0 := fv_lt imm 4 8 (by decide)
  have b1 := fv_lt rd 1 16 (by decide)
  have b2 := fv_lt imm 1 4 (by decide)
  have b3 := fv_lt rm 1 16 (by decide)
  have g0 : rhalf ⟨5, rd, rn, rm, ra, imm, cond, false⟩ 0 [49, 49, 49, 48, 49, 48, 49, 48, 48, 49, 48, 48, 49, 49, 49, 49] = num ⟨5, rd, rn, rm, ra, imm, cond, false⟩ / 65536 := by
    show (2 * (2 * (2 * (2 * (2 * (2 * (2 * (2 * (2 * (2 * (2 * (2 * (2 * (2 * (2 * (2 * 0 + 1) + 1) + 1) + 0) + 1) + 0) + 1) + 0) + 0) + 1) + 0) + 0) + 1) + 1) + 1) + 1) = _
    rw [num5]
    omega
  have g1 : rhalf ⟨5, rd, rn, rm, ra, imm, cond, false⟩ 0 [48, 69, 68, 67, 100, 100, 100, 100, 66, 65, 48, 48, 109, 109, 109, 109] = num ⟨5, rd, rn, rm, ra, imm, cond, false⟩ % 65536 := by
    show (bd rm 0 4 (2 * (2 * (bd (off imm) 0 2 (bd rd 0 4 (bd (off imm) 2 3 (2 * 0 + 0)))) + 0) + 0)) = _
    rw [bdl rm 0 4 _ 1 16 (by decide) (by decide)]
    rw [bdl (off imm) 0 2 _ 1 4 (by decide) (by decide)]
    rw [bdl rd 0 4 _ 1 16 (by decide) (by decide)]
    rw [bdl (off imm) 2 3 _ 4 8 (by decide) (by decide)]
    rw [off_pos imm (by omega)]
    rw [num5]
    omega
  exact ⟨g0, g1⟩
theorem half6 (rd rn rm ra imm cond : Int) (hi : 0 ≤ imm) : rhalf ⟨6, rd, rn, rm, ra, imm, cond, false⟩ 0 [49, 49, 49, 48, 49, 48, 49, 48, 48, 49, 48, 48, 49, 49, 49, 49] = num ⟨6, rd, rn, rm, ra, imm, cond, false⟩ / 65536 ∧ rhalf ⟨6, rd, rn, rm, ra, imm, cond, false⟩ 0 [48, 69, 68, 67, 100, 100, 100, 100, 66, 65, 48, 49, 109, 109, 109, 109] = num ⟨6, rd, rn, rm, ra, imm, cond, false⟩ % 65536 := by
  have b0 := fv_lt imm 4 8 (by decide)
  have b1 := fv_lt rd 1 16 (by decide)
  have b2 := fv_lt imm 1 4 (by decide)
  have b3 := fv_lt rm 1 16 (by decide)
  have g0 : rhalf ⟨6, rd, rn, rm, ra, imm, cond, false⟩ 0 [49, 49, 49, 48, 49, 48, 49, 48, 48, 49, 48, 48, 49, 49, 49, 49] = num ⟨6, rd, rn, rm, ra, imm, cond, false⟩ / 65536 := by
    show (2 * (2 * (2 * (2 * (2 * (2 * (2 * (2 * (2 * (2 * (2 * (2 * (2 * (2 * (2 * (2 * 0 + 1) + 1) + 1) + 0) + 1) + 0) + 1) + 0) + 0) + 1) + 0) + 0) + 1) + 1) + 1) + 1) = _
    rw [num6]
    omega
  have g1 : rhalf ⟨6, rd, rn, rm, ra, imm, cond, false⟩ 0 [48, 69, 68, 67, 100, 100, 100, 100, 66, 65, 48, 49, 109, 109, 109, 109] = num ⟨6, rd, rn, rm, ra, imm, cond, false⟩ % 65536 := by
    show (bd rm 0 4 (2 * (2 * (bd (off imm) 0 2 (bd rd 0 4 (bd (off imm) 2 3 (2 * 0 + 0)))) + 0) + 1)) = _
    rw [bdl rm 0 4 _ 1 16 (by decide) (by decide)]
    rw [bdl (off imm) 0 2 _ 1 4 (by decide) (by decide)]
    rw [bdl rd 0 4 _ 1 16 (by decide) (by decide)]
    rw [bdl (off imm) 2 3 _ 4 8 (by decide) (by decide)]
    rw [off_pos imm (by omega)]
    rw [num6]
    omega
  exact ⟨g0, g1⟩
theorem half7 (rd rn rm ra imm cond : Int) (hi : 0 ≤ imm) : rhalf ⟨7, rd, rn, rm, ra, imm, cond, false⟩ 0 [49, 49, 49, 48, 49, 48, 49, 48, 48, 49, 48, 48, 49, 49, 49, 49] = num ⟨7, rd, rn, rm, ra, imm, cond, false⟩ / 65536 ∧ rhalf ⟨7, rd, rn, rm, ra, imm, cond, false⟩ 0 [48, 69, 68, 67, 100, 100, 100, 100, 66, 65, 49, 48, 109, 109, 109, 109] = num ⟨7, rd, rn, rm, ra, imm, cond, false⟩ % 65536 := by
  have b0 := fv_lt imm 4 8 (by decide)
  have b1 := fv_lt rd 1 16 (by decide)
  have b2 := fv_lt imm 1 4 (by decide)
  have b3 := fv_lt rm 1 16 (by decide)
  have g0 : rhalf ⟨7, rd, rn, rm, ra, imm, cond, false⟩ 0 [49, 49, 49, 48, 49, 48, 49, 48, 48, 49, 48, 48, 49, 49, 49, 49] = num ⟨7, rd, rn, rm, ra, imm, cond, false⟩ / 65536 := by
    show (2 * (2 * (2 * (2 * (2 * (2 * (2 * (2 * (2 * (2 * (2 * (2 * (2 * (2 * (2 * (2 * 0 + 1) + 1) + 1) + 0) + 1) + 0) + 1) + 0) + 0) + 1) + 0) + 0) + 1) + 1) + 1) + 1) = _
    rw [num7]
    omega
  have g1 : rhalf ⟨7, rd, rn, rm, ra, imm, cond, false⟩ 0 [48, 69, 68, 67, 100, 100, 100, 100, 66, 65, 49, 48, 109, 109, 109, 109] = num ⟨7, rd, rn, rm, ra, imm, cond, false⟩ % 65536 := by
    show (bd rm 0 4 (2 * (2 * (bd (off imm) 0 2 (bd rd 0 4 (bd (off imm) 2 3 (2 * 0 + 0)))) + 1) + 0)) = _
    rw [bdl rm 0 4 _ 1 16 (by decide) (by decide)]
    rw [bdl (off imm) 0 2 _ 1 4 (by decide) (by decide)]
    rw [bdl rd 0 4 _ 1 16 (by decide) (by decide)]
    rw [bdl (off imm) 2 3 _ 4 8 (by decide) (by decide)]
    rw [off_pos imm (by omega)]
    rw [num7]
    omega
  exact ⟨g0, g1⟩
theorem half8 (rd rn rm ra imm cond : Int) (hi : 0 ≤ imm) : rhalf ⟨8, rd, rn, rm, ra, imm, cond, false⟩ 0 [49, 49, 49, 48, 49, 48, 49, 48, 48, 49, 48, 48, 49, 49, 49, 49] = num ⟨8, rd, rn, rm, ra, imm, cond, false⟩ / 65536 ∧ rhalf ⟨8, rd, rn, rm, ra, imm, cond, false⟩ 0 [48, 69, 68, 67, 100, 100, 100, 100, 66, 65, 49, 49, 109, 109, 109, 109] = num ⟨8, rd, rn, rm, ra, imm, cond, false⟩ % 65536 := by
  have b0 := fv_lt imm 4 8 (by decide)
  have b1 := fv_lt rd 1 16 (by decide)
  have b2 := fv_lt imm 1 4 (by decide)
  have b3 := fv_lt rm 1 16 (by decide)
  have g0 : rhalf ⟨8, rd, rn, rm, ra, imm, cond, false⟩ 0 [49, 49, 49, 48, 49, 48, 49, 48, 48, 49, 48, 48, 49, 49, 49, 49] = num ⟨8, rd, rn, rm, ra, imm, cond, false⟩ / 65536 := by
    show (2 * (2 * (2 * (2 * (2 * (2 * (2 * (2 * (2 * (2 * (2 * (2 * (2 * (2 * (2 * (2 * 0 + 1) + 1) + 1) + 0) + 1) + 0) + 1) + 0) + 0) + 1) + 0) + 0) + 1) + 1) + 1) + 1) = _
    rw [num8]
    omega
  have g1 : rhalf ⟨8, rd, rn, rm, ra, imm, cond, false⟩ 0 [48, 69, 68, 67, 100, 100, 100, 100, 66, 65, 49, 49, 109, 109, 109, 109] = num ⟨8, rd, rn, rm, ra, imm, cond, false⟩ % 65536 := by
    show (bd rm 0 4 (2 * (2 * (bd (off imm) 0 2 (bd rd 0 4 (bd (off imm) 2 3 (2 * 0 + 0)))) + 1) + 1)) = _
    rw [bdl rm 0 4 _ 1 16 (by decide) (by decide)]
    rw [bdl (off imm) 0 2 _ 1 4 (by decide) (by decide)]
    rw [bdl rd 0 4 _ 1 16 (by decide) (by decide)]
    rw [bdl (off imm) 2 3 _ 4 8 (by decide) (by decide)]
    rw [off_pos imm (by omega)]
    rw [num8]
    omega
  exact ⟨g0, g1⟩
theorem half9 (rd rn rm ra imm cond : Int) (hi : 0 ≤ imm) : rhalf ⟨9, rd, rn, rm, ra, imm, cond, false⟩ 0 [49, 49, 49, 48, 49, 48, 49, 48, 48, 49, 49, 48, 49, 49, 49, 49] = num ⟨9, rd, rn, rm, ra, imm, cond, false⟩ / 65536 ∧ rhalf ⟨9, rd, rn, rm, ra, imm, cond, false⟩ 0 [48, 48, 48, 48, 100, 100, 100, 100, 48, 48, 48, 48, 109, 109, 109, 109] = num ⟨9, rd, rn, rm, ra, imm, cond, false⟩ % 65536 := by
  have b0 := fv_lt rd 1 16 (by decide)
  have b1 := fv_lt rm 1 16 (by decide)
  have g0 : rhalf ⟨9, rd, rn, rm, ra, imm, cond, false⟩ 0 [49, 49, 49, 48, 49, 48, 49, 48, 48, 49, 49, 48, 49, 49, 49, 49] = num ⟨9, rd, rn, rm, ra, imm, cond, false⟩ / 65536 := by
    show (2 * (2 * (2 * (2 * (2 * (2 * (2 * (2 * (2 * (2 * (2 * (2 * (2 * (2 * (2 * (2 * 0 + 1) + 1) + 1) + 0) + 1) + 0) + 1) + 0) + 0) + 1) + 1) + 0) + 1) + 1) + 1) + 1) = _
    rw [num9]
    omega
  have g1 : rhalf ⟨9, rd, rn, rm, ra, imm, cond, false⟩ 0 [48, 48, 48, 48, 100, 100, 100, 100, 48, 48, 48, 48, 109, 109, 109, 109] = num ⟨9, rd, rn, rm, ra, imm, cond, false⟩ % 65536 := by
    show (bd rm 0 4 (2 * (2 * (2 * (2 * (bd rd 0 4 (2 * (2 * (2 * (2 * 0 + 0) + 0) + 0) + 0)) + 0) + 0) + 0) + 0)) = _
    rw [bdl rm 0 4 _ 1 16 (by decide) (by decide)]
    rw [bdl rd 0 4 _ 1 16 (by decide) (by decide)]
    rw [num9]
    omega
  exact ⟨g0, g1⟩
theorem half10 (rd rn rm ra imm cond : Int) (hi : 0 ≤ imm) : rhalf ⟨10, rd, rn, rm, ra, imm, cond, false⟩ 0 [49, 49, 49, 48, 49, 48, 49, 48, 48, 48, 48, 48, 110, 110, 110, 110] = num ⟨10, rd, rn, rm, ra, imm, cond, false⟩ / 65536 ∧ rhalf ⟨10, rd, rn, rm, ra, imm, cond, false⟩ 0 [48, 48, 48, 48, 100, 100, 100, 100, 48, 48, 48, 48, 109, 109, 109, 109] = num ⟨10, rd, rn, rm, ra, imm, cond, false⟩ % 65536 := by
  have b0 := fv_lt rn 1 16 (by decide)
  have b1 := fv_lt rd 1 16 (by decide)
  have b2 := fv_lt rm 1 16 (by decide)
  have g0 : rhalf ⟨10, rd, rn, rm, ra, imm, cond, false⟩ 0 [49, 49, 49, 48, 49, 48, 49, 48, 48, 48, 48, 48, 110, 110, 110, 110] = num ⟨10, rd, rn, rm, ra, imm, cond, false⟩ / 65536 := by
    show (bd rn 0 4 (2 * (2 * (2 * (2 * (2 * (2 * (2 * (2 * (2 * (2 * (2 * (2 * 0 + 1) + 1) + 1) + 0) + 1) + 0) + 1) + 0) + 0) + 0) + 0) + 0)) = _
    rw [bdl rn 0 4 _ 1 16 (by decide) (by decide)]
    rw [num10]
    omega
  have g1 : rhalf ⟨10, rd, rn, rm, ra, imm, cond, false⟩ 0 [48, 48, 48, 48, 100, 100, 100, 100, 48, 48, 48, 48, 109, 109, 109, 109] = num ⟨10, rd, rn, rm, ra, imm, cond, false⟩ % 65536 := by
    show (bd rm 0 4 (2 * (2 * (2 * (2 * (bd rd 0 4 (2 * (2 * (2 * (2 * 0 + 0) + 0) + 0) + 0)) + 0) + 0) + 0) + 0)) = _
    rw [bdl rm 0 4 _ 1 16 (by decide) (by decide)]
    rw [bdl rd 0 4 _ 1 16 (by decide) (by decide)]
    rw [num10]
    omega
  exact ⟨g0, g1⟩
theorem half11 (rd rn rm ra imm cond : Int) (hi : 0 ≤ imm) : rhalf ⟨11, rd, rn, rm, ra, imm, cond, false⟩ 0 [49, 49, 49, 48, 49, 48, 49, 48, 48, 48, 49, 48, 110, 110, 110, 110] = num ⟨11, rd, rn, rm, ra, imm, cond, false⟩ / 65536 ∧ rhalf ⟨11, rd, rn, rm, ra, imm, cond, false⟩ 0 [48, 48, 48, 48, 100, 100, 100, 100, 48, 48, 48, 48, 109, 109, 109, 109] = num ⟨11, rd, rn, rm, ra, imm, cond, false⟩ % 65536 := by
  have b0 := fv_lt rn 1 16 (by decide)
  have b1 := fv_lt rd 1 16 (by decide)
  have b2 := fv_lt rm 1 16 (by decide)
  have g0 : rhalf ⟨11, rd, rn, rm, ra, imm, cond, false⟩ 0 [49, 49, 49, 48, 49, 48, 49, 48, 48, 48, 49, 48, 110, 110, 110, 110] = num ⟨11, rd, rn, rm, ra, imm, cond, false⟩ / 65536 := by
    show (bd rn 0 4 (2 * (2 * (2 * (2 * (2 * (2 * (2 * (2 * (2 * (2 * (2 * (2 * 0 + 1) + 1) + 1) + 0) + 1) + 0) + 1) + 0) + 0) + 0) + 1) + 0)) = _
    rw [bdl rn 0 4 _ 1 16 (by decide) (by decide)]
    rw [num11]
    omega
  have g1 : rhalf ⟨11, rd, rn, rm, ra, imm, cond, false⟩ 0 [48, 48, 48, 48, 100, 100, 100, 100, 48, 48, 48, 48, 109, 109, 109, 109] = num ⟨11, rd, rn, rm, ra, imm, cond, false⟩ % 65536 := by
    show (bd rm 0 4 (2 * (2 * (2 * (2 * (bd rd 0 4 (2 * (2 * (2 * (2 * 0 + 0) + 0) + 0) + 0)) + 0) + 0) + 0) + 0)) = _
    rw [bdl rm 0 4 _ 1 16 (by decide) (by decide)]
    rw [bdl rd 0 4 _ 1 16 (by decide) (by decide)]
    rw [num11]
    omega
  exact ⟨g0, g1⟩
theorem half12 (rd rn rm ra imm cond : Int) (hi : 0 ≤ imm) : rhalf ⟨12, rd, rn, rm, ra, imm, cond, false⟩ 0 [49, 49, 49, 48, 49, 48, 49, 48, 48, 49, 48, 48, 110, 110, 110, 110] = num ⟨12, rd, rn, rm, ra, imm, cond, false⟩ / 65536 ∧ rhalf ⟨12, rd, rn, rm, ra, imm, cond, false⟩ 0 [48, 48, 48, 48, 100, 100, 100, 100, 48, 48, 48, 48, 109, 109, 109, 109] = num ⟨12, rd, rn, rm, ra, imm, cond, false⟩ % 65536 := by
  have b0 := fv_lt rn 1 16 (by decide)
  have b1 := fv_lt rd 1 16 (by decide)
  have b2 := fv_lt rm 1 16 (by decide)
  have g0 : rhalf ⟨12, rd, rn, rm, ra, imm, cond, false⟩ 0 [49, 49, 49, 48, 49, 48, 49, 48, 48, 49, 48, 48, 110, 110, 110, 110] = num ⟨12, rd, rn, rm, ra, imm, cond, false⟩ / 65536 := by
    show (bd rn 0 4 (2 * (2 * (2 * (2 * (2 * (2 * (2 * (2 * (2 * (2 * (2 * (2 * 0 + 1) + 1) + 1) + 0) + 1) + 0) + 1) + 0) + 0) + 1) + 0) + 0)) = _
    rw [bdl rn 0 4 _ 1 16 (by decide) (by decide)]
    rw [num12]
    omega
  have g1 : rhalf ⟨12, rd, rn, rm, ra, imm, cond, false⟩ 0 [48, 48, 48, 48, 100, 100, 100, 100, 48, 48, 48, 48, 109, 109, 109, 109] = num ⟨12, rd, rn, rm, ra, imm, cond, false⟩ % 65536 := by
    show (bd rm 0 4 (2 * (2 * (2 * (2 * (bd rd 0 4 (2 * (2 * (2 * (2 * 0 + 0) + 0) + 0) + 0)) + 0) + 0) + 0) + 0)) = _
    rw [bdl rm 0 4 _ 1 16 (by decide) (by decide)]
    rw [bdl rd 0 4 _ 1 16 (by decide) (by decide)]
    rw [num12]
    omega
  exact ⟨g0, g1⟩
theorem half13 (rd rn rm ra imm cond : Int) (hi : 0 ≤ imm) : rhalf ⟨13, rd, rn, rm, ra, imm, cond, false⟩ 0 [49, 49, 49, 48, 49, 48, 49, 48, 49, 48, 48, 48, 110, 110, 110, 110] = num ⟨13, rd, rn, rm, ra, imm, cond, false⟩ / 65536 ∧ rhalf ⟨13, rd, rn, rm, ra, imm, cond, false⟩ 0 [48, 48, 48, 48, 100, 100, 100, 100, 48, 48, 48, 48, 109, 109, 109, 109] = num ⟨13, rd, rn, rm, ra, imm, cond, false⟩ % 65536 := by
  have b0 := fv_lt rn 1 16 (by decide)
  have b1 := fv_lt rd 1 16 (by decide)
  have b2 := fv_lt rm 1 16 (by decide)
  have g0 : rhalf ⟨13, rd, rn, rm, ra, imm, cond, false⟩ 0 [49, 49, 49, 48, 49, 48, 49, 48, 49, 48, 48, 48, 110, 110, 110, 110] = num ⟨13, rd, rn, rm, ra, imm, cond, false⟩ / 65536 := by
    show (bd rn 0 4 (2 * (2 * (2 * (2 * (2 * (2 * (2 * (2 * (2 * (2 * (2 * (2 * 0 + 1) + 1) + 1) + 0) + 1) + 0) + 1) + 0) + 1) + 0) + 0) + 0)) = _
    rw [bdl rn 0 4 _ 1 16 (by decide) (by decide)]
    rw [num13]
    omega
  have g1 : rhalf ⟨13, rd, rn, rm, ra, imm, cond, false⟩ 0 [48, 48, 48, 48, 100, 100, 100, 100, 48, 48, 48, 48, 109, 109, 109, 109] = num ⟨13, rd, rn, rm, ra, imm, cond, false⟩ % 65536 := by
    show (bd rm 0 4 (2 * (2 * (2 * (2 * (bd rd 0 4 (2 * (2 * (2 * (2 * 0 + 0) + 0) + 0) + 0)) + 0) + 0) + 0) + 0)) = _
    rw [bdl rm 0 4 _ 1 16 (by decide) (by decide)]
    rw [bdl rd 0 4 _ 1 16 (by decide) (by decide)]
    rw [num13]
    omega
  exact ⟨g0, g1⟩
theorem half14 (rd rn rm ra imm cond : Int) (hi : 0 ≤ imm) : rhalf ⟨14, rd, rn, rm, ra, imm, cond, false⟩ 0 [49, 49, 49, 48, 49, 48, 49, 49, 48, 48, 48, 48, 110, 110, 110, 110] = num ⟨14, rd, rn, rm, ra, imm, cond, false⟩ / 65536 ∧ rhalf ⟨14, rd, rn, rm, ra, imm, cond, false⟩ 0 [48, 48, 48, 48, 100, 100, 100, 100, 48, 48, 48, 48, 109, 109, 109, 109] = num ⟨14, rd, rn, rm, ra, imm, cond, false⟩ % 65536 := by
  have b0 := fv_lt rn 1 16 (by decide)
  have b1 := fv_lt rd 1 16 (by decide)
  have b2 := fv_lt rm 1 16 (by decide)
  have g0 : rhalf ⟨14, rd, rn, rm, ra, imm, cond, false⟩ 0 [49, 49, 49, 48, 49, 48, 49, 49, 48, 48, 48, 48, 110, 110, 110, 110] = num ⟨14, rd, rn, rm, ra, imm, cond, false⟩ / 65536 := by
    show (bd rn 0 4 (2 * (2 * (2 * (2 * (2 * (2 * (2 * (2 * (2 * (2 * (2 * (2 * 0 + 1) + 1) + 1) + 0) + 1) + 0) + 1) + 1) + 0) + 0) + 0) + 0)) = _
    rw [bdl rn 0 4 _ 1 16 (by decide) (by decide)]
    rw [num14]
    omega
  have g1 : rhalf ⟨14, rd, rn, rm, ra, imm, cond, false⟩ 0 [48, 48, 48, 48, 100, 100, 100, 100, 48, 48, 48, 48, 109, 109, 109, 109] = num ⟨14, rd, rn, rm, ra, imm, cond, false⟩ % 65536 := by
    show (bd rm 0 4 (2 * (2 * (2 * (2 * (bd rd 0 4 (2 * (2 * (2 * (2 * 0 + 0) + 0) + 0) + 0)) + 0) + 0) + 0) + 0)) = _
    rw [bdl rm 0 4 _ 1 16 (by decide) (by decide)]
    rw [bdl rd 0 4 _ 1 16 (by decide) (by decide)]
    rw [num14]
    omega
  exact ⟨g0, g1⟩
theorem half15 (rd rn rm ra imm cond : Int) (hi : 0 ≤ imm) : rhalf ⟨15, rd, rn, rm, ra, imm, cond, false⟩ 0 [49, 49, 49, 48, 49, 48, 49, 49, 49, 48, 49, 48, 110, 110, 110, 110] = num ⟨15, rd, rn, rm, ra, imm, cond, false⟩ / 65536 ∧ rhalf ⟨15, rd, rn, rm, ra, imm, cond, false⟩ 0 [48, 48, 48, 48, 100, 100, 100, 100, 48, 48, 48, 48, 109, 109, 109, 109] = num ⟨15, rd, rn, rm, ra, imm, cond, false⟩ % 65536 := by
  have b0 := fv_lt rn 1 16 (by decide)
  have b1 := fv_lt rd 1 16 (by decide)
  have b2 := fv_lt rm 1 16 (by decide)
  have g0 : rhalf ⟨15, rd, rn, rm, ra, imm, cond, false⟩ 0 [49, 49, 49, 48, 49, 48, 49, 49, 49, 48, 49, 48, 110, 110, 110, 110] = num ⟨15, rd, rn, rm, ra, imm, cond, false⟩ / 65536 := by
    show (bd rn 0 4 (2 * (2 * (2 * (2 * (2 * (2 * (2 * (2 * (2 * (2 * (2 * (2 * 0 + 1) + 1) + 1) + 0) + 1) + 0) + 1) + 1) + 1) + 0) + 1) + 0)) = _
    rw [bdl rn 0 4 _ 1 16 (by decide) (by decide)]
    rw [num15]
    omega
  have g1 : rhalf ⟨15, rd, rn, rm, ra, imm, cond, false⟩ 0 [48, 48, 48, 48, 100, 100, 100, 100, 48, 48, 48, 48, 109, 109, 109, 109] = num ⟨15, rd, rn, rm, ra, imm, cond, false⟩ % 65536 := by
    show (bd rm 0 4 (2 * (2 * (2 * (2 * (bd rd 0 4 (2 * (2 * (2 * (2 * 0 + 0) + 0) + 0) + 0)) + 0) + 0) + 0) + 0)) = _
    rw [bdl rm 0 4 _ 1 16 (by decide) (by decide)]
    rw [bdl rd 0 4 _ 1 16 (by decide) (by decide)]
    rw [num15]
    omega
  exact ⟨g0, g1⟩
theorem half16 (rd rn rm ra imm cond : Int) (hi : 0 ≤ imm) : rhalf ⟨16, rd, rn, rm, ra, imm, cond, false⟩ 0 [49, 49, 49, 49, 49, 48, 49, 49, 48, 48, 48, 48, 110, 110, 110, 110] = num ⟨16, rd, rn, rm, ra, imm, cond, false⟩ / 65536 ∧ rhalf ⟨16, rd, rn, rm, ra, imm, cond, false⟩ 0 [49, 49, 49, 49, 100, 100, 100, 100, 48, 48, 48, 48, 109, 109, 109, 109] = num ⟨16, rd, rn, rm, ra, imm, cond, false⟩ % 65536 := by
  have b0 := fv_lt rn 1 16 (by decide)
  have b1 := fv_lt rd 1 16 (by decide)
  have b2 := fv_lt rm 1 16 (by decide)
  have g0 : rhalf ⟨16, rd, rn, rm, ra, imm, cond, false⟩ 0 [49, 49, 49, 49, 49, 48, 49, 49, 48, 48, 48, 48, 110, 110, 110, 110] = num ⟨16, rd, rn, rm, ra, imm, cond, false⟩ / 65536 := by
    show (bd rn 0 4 (2 * (2 * (2 * (2 * (2 * (2 * (2 * (2 * (2 * (2 * (2 * (2 * 0 + 1) + 1) + 1) + 1) + 1) + 0) + 1) + 1) + 0) + 0) + 0) + 0)) = _
    rw [bdl rn 0 4 _ 1 16 (by decide) (by decide)]
    rw [num16]
    omega
  have g1 : rhalf ⟨16, rd, rn, rm, ra, imm, cond, false⟩ 0 [49, 49, 49, 49, 100, 100, 100, 100, 48, 48, 48, 48, 109, 109, 109, 109] = num ⟨16, rd, rn, rm, ra, imm, cond, false⟩ % 65536 := by
    show (bd rm 0 4 (2 * (2 * (2 * (2 * (bd rd 0 4 (2 * (2 * (2 * (2 * 0 + 1) + 1) + 1) + 1)) + 0) + 0) + 0) + 0)) = _
    rw [bdl rm 0 4 _ 1 16 (by decide) (by decide)]
    rw [bdl rd 0 4 _ 1 16 (by decide) (by decide)]
    rw [num16]
    omega
  exact ⟨g0, g1⟩
theorem half17 (rd rn rm ra imm cond : Int) (hi : 0 ≤ imm) : rhalf ⟨17, rd, rn, rm, ra, imm, cond, false⟩ 0 [49, 49, 49, 49, 49, 48, 49, 49, 49, 48, 49, 48, 110, 110, 110, 110] = num ⟨17, rd, rn, rm, ra, imm, cond, false⟩ / 65536 ∧ rhalf ⟨17, rd, rn, rm, ra, imm, cond, false⟩ 0 [100, 100, 100, 100, 97, 97, 97, 97, 48, 48, 48, 48, 109, 109, 109, 109] = num ⟨17, rd, rn, rm, ra, imm, cond, false⟩ % 65536 := by
  have b0 := fv_lt rn 1 16 (by decide)
  have b1 := fv_lt rd 1 16 (by decide)
  have b2 := fv_lt ra 1 16 (by decide)
  have b3 := fv_lt rm 1 16 (by decide)
  have g0 : rhalf ⟨17, rd, rn, rm, ra, imm, cond, false⟩ 0 [49, 49, 49, 49, 49, 48, 49, 49, 49, 48, 49, 48, 110, 110, 110, 110] = num ⟨17, rd, rn, rm, ra, imm, cond, false⟩ / 65536 := by
    show (bd rn 0 4 (2 * (2 * (2 * (2 * (2 * (2 * (2 * (2 * (2 * (2 * (2 * (2 * 0 + 1) + 1) + 1) + 1) + 1) + 0) + 1) + 1) + 1) + 0) + 1) + 0)) = _
    rw [bdl rn 0 4 _ 1 16 (by decide) (by decide)]
    rw [num17]
    omega
  have g1 : rhalf ⟨17, rd, rn, rm, ra, imm, cond, false⟩ 0 [100, 100, 100, 100, 97, 97, 97, 97, 48, 48, 48, 48, 109, 109, 109, 109] = num ⟨17, rd, rn, rm, ra, imm, cond, false⟩ % 65536 := by
    show (bd rm 0 4 (2 * (2 * (2 * (2 * (bd ra 0 4 (bd rd 0 4 0)) + 0) + 0) + 0) + 0)) = _
    rw [bdl rm 0 4 _ 1 16 (by decide) (by decide)]
    rw [bdl ra 0 4 _ 1 16 (by decide) (by decide)]
    rw [bdl rd 0 4 _ 1 16 (by decide) (by decide)]
    rw [num17]
    omega
  exact ⟨g0, g1⟩
theorem half18 (rd rn rm ra imm cond : Int) (hi : 0 ≤ imm) : rhalf ⟨18, rd, rn, rm, ra, imm, cond, false⟩ 0 [49, 49, 49, 49, 48, 48, 49, 49, 48, 49, 49, 48, 110, 110, 110, 110] = num ⟨18, rd, rn, rm, ra, imm, cond, false⟩ / 65536 ∧ rhalf ⟨18, rd, rn, rm, ra, imm, cond, false⟩ 0 [48, 69, 68, 67, 100, 100, 100, 100, 66, 65, 48, 119, 119, 119, 119, 119] = num ⟨18, rd, rn, rm, ra, imm, cond, false⟩ % 65536 := by
  have b0 := fv_lt rn 1 16 (by decide)
  have b1 := fv_lt imm 4 8 (by decide)
  have b2 := fv_lt rd 1 16 (by decide)
  have b3 := fv_lt imm 1 4 (by decide)
  have b4 := fv_lt (imm + ra - 1) 1 32 (by decide)
  have g0 : rhalf ⟨18, rd, rn, rm, ra, imm, cond, false⟩ 0 [49, 49, 49, 49, 48, 48, 49, 49, 48, 49, 49, 48, 110, 110, 110, 110] = num ⟨18, rd, rn, rm, ra, imm, cond, false⟩ / 65536 := by
    show (bd rn 0 4 (2 * (2 * (2 * (2 * (2 * (2 * (2 * (2 * (2 * (2 * (2 * (2 * 0 + 1) + 1) + 1) + 1) + 0) + 0) + 1) + 1) + 0) + 1) + 1) + 0)) = _
    rw [bdl rn 0 4 _ 1 16 (by decide) (by decide)]
    rw [num18]
    omega
  have g1 : rhalf ⟨18, rd, rn, rm, ra, imm, cond, false⟩ 0 [48, 69, 68, 67, 100, 100, 100, 100, 66, 65, 48, 119, 119, 119, 119, 119] = num ⟨18, rd, rn, rm, ra, imm, cond, false⟩ % 65536 := by
    show (bd (imm + ra - 1) 0 5 (2 * (bd (off imm) 0 2 (bd rd 0 4 (bd (off imm) 2 3 (2 * 0 + 0)))) + 0)) = _
    rw [bdl (imm + ra - 1) 0 5 _ 1 32 (by decide) (by decide)]
    rw [bdl (off imm) 0 2 _ 1 4 (by decide) (by decide)]
    rw [bdl rd 0 4 _ 1 16 (by decide) (by decide)]
    rw [bdl (off imm) 2 3 _ 4 8 (by decide) (by decide)]
    rw [off_pos imm (by omega)]
    rw [num18]
    omega
  exact ⟨g0, g1⟩
theorem half19 (rd rn rm ra imm cond : Int) (hi : 0 ≤ imm) : rhalf ⟨19, rd, rn, rm, ra, imm, cond, false⟩ 0 [48, 49, 49, 48, 49, 48, 48, 48, 48, 48, 110, 110, 110, 100, 100, 100] = num ⟨19, rd, rn, rm, ra, imm, cond, false⟩ := by
  have b0 := fv_lt rn 1 8 (by decide)
  have b1 := fv_lt rd 1 8 (by decide)
  have g0 : rhalf ⟨19, rd, rn, rm, ra, imm, cond, false⟩ 0 [48, 49, 49, 48, 49, 48, 48, 48, 48, 48, 110, 110, 110, 100, 100, 100] = num ⟨19, rd, rn, rm, ra, imm, cond, false⟩ := by
    show (bd rd 0 3 (bd rn 0 3 (2 * (2 * (2 * (2 * (2 * (2 * (2 * (2 * (2 * (2 * 0 + 0) + 1) + 1) + 0) + 1) + 0) + 0) + 0) + 0) + 0))) = _
    rw [bdl rd 0 3 _ 1 8 (by decide) (by decide)]
    rw [bdl rn 0 3 _ 1 8 (by decide) (by decide)]
    rw [num19]
    omega
  exact g0
theorem half20 (rd rn rm ra imm cond : Int) (hi : 0 ≤ imm) : rhalf ⟨20, rd, rn, rm, ra, imm, cond, false⟩ 0 [48, 49, 49, 48, 48, 48, 48, 48, 48, 48, 110, 110, 110, 100, 100, 100] = num ⟨20, rd, rn, rm, ra, imm, cond, false⟩ := by
  have b0 := fv_lt rn 1 8 (by decide)
  have b1 := fv_lt rd 1 8 (by decide)
  have g0 : rhalf ⟨20, rd, rn, rm, ra, imm, cond, false⟩ 0 [48, 49, 49, 48, 48, 48, 48, 48, 48, 48, 110, 110, 110, 100, 100, 100] = num ⟨20, rd, rn, rm, ra, imm, cond, false⟩ := by
    show (bd rd 0 3 (bd rn 0 3 (2 * (2 * (2 * (2 * (2 * (2 * (2 * (2 * (2 * (2 * 0 + 0) + 1) + 1) + 0) + 0) + 0) + 0) + 0) + 0) + 0))) = _
    rw [bdl rd 0 3 _ 1 8 (by decide) (by decide)]
    rw [bdl rn 0 3 _ 1 8 (by decide) (by decide)]
    rw [num20]
    omega
  exact g0
theorem half21 (rd rn rm ra imm cond : Int) (hi : 0 ≤ imm) : rhalf ⟨21, rd, rn, rm, ra, imm, cond, false⟩ 0 [48, 49, 49, 49, 49, 48, 48, 48, 48, 48, 110, 110, 110, 100, 100, 100] = num ⟨21, rd, rn, rm, ra, imm, cond, false⟩ := by
  have b0 := fv_lt rn 1 8 (by decide)
  have b1 := fv_lt rd 1 8 (by decide)
  have g0 : rhalf ⟨21, rd, rn, rm, ra, imm, cond, false⟩ 0 [48, 49, 49, 49, 49, 48, 48, 48, 48, 48, 110, 110, 110, 100, 100, 100] = num ⟨21, rd, rn, rm, ra, imm, cond, false⟩ := by
    show (bd rd 0 3 (bd rn 0 3 (2 * (2 * (2 * (2 * (2 * (2 * (2 * (2 * (2 * (2 * 0 + 0) + 1) + 1) + 1) + 1) + 0) + 0) + 0) + 0) + 0))) = _
    rw [bdl rd 0 3 _ 1 8 (by decide) (by decide)]
    rw [bdl rn 0 3 _ 1 8 (by decide) (by decide)]
    rw [num21]
    omega
  exact g0
theorem half22 (rd rn rm ra imm cond : Int) (hi : 0 ≤ imm) : rhalf ⟨22, rd, rn, rm, ra, imm, cond, false⟩ 0 [48, 49, 49, 49, 48, 48, 48, 48, 48, 48, 110, 110, 110, 100, 100, 100] = num ⟨22, rd, rn, rm, ra, imm, cond, false⟩ := by
  have b0 := fv_lt rn 1 8 (by decide)
  have b1 := fv_lt rd 1 8 (by decide)
  have g0 : rhalf ⟨22, rd, rn, rm, ra, imm, cond, false⟩ 0 [48, 49, 49, 49, 48, 48, 48, 48, 48, 48, 110, 110, 110, 100, 100, 100] = num ⟨22, rd, rn, rm, ra, imm, cond, false⟩ := by
    show (bd rd 0 3 (bd rn 0 3 (2 * (2 * (2 * (2 * (2 * (2 * (2 * (2 * (2 * (2 * 0 + 0) + 1) + 1) + 1) + 0) + 0) + 0) + 0) + 0) + 0))) = _
    rw [bdl rd 0 3 _ 1 8 (by decide) (by decide)]
    rw [bdl rn 0 3 _ 1 8 (by decide) (by decide)]
    rw [num22]
    omega
  exact g0
theorem half23 (rd rn rm ra imm cond : Int) (hi : 0 ≤ imm) : rhalf ⟨23, rd, rn, rm, ra, imm, cond, false⟩ 0 [48, 49, 48, 48, 48, 48, 49, 48, 49, 48, 109, 109, 109, 110, 110, 110] = num ⟨23, rd, rn, rm, ra, imm, cond, false⟩ := by
  have b0 := fv_lt rm 1 8 (by decide)
  have b1 := fv_lt rn 1 8 (by decide)
  have g0 : rhalf ⟨23, rd, rn, rm, ra, imm, cond, false⟩ 0 [48, 49, 48, 48, 48, 48, 49, 48, 49, 48, 109, 109, 109, 110, 110, 110] = num ⟨23, rd, rn, rm, ra, imm, cond, false⟩ := by
    show (bd rn 0 3 (bd rm 0 3 (2 * (2 * (2 * (2 * (2 * (2 * (2 * (2 * (2 * (2 * 0 + 0) + 1) + 0) + 0) + 0) + 0) + 1) + 0) + 1) + 0))) = _
    rw [bdl rn 0 3 _ 1 8 (by decide) (by decide)]
    rw [bdl rm 0 3 _ 1 8 (by decide) (by decide)]
    rw [num23]
    omega
  exact g0
theorem half24n (rd rn rm ra imm cond : Int) : rhalf ⟨24, rd, rn, rm, ra, imm, cond, false⟩ 0 [49, 49, 49, 48, 48, 76, 75, 74, 73, 72, 71, 70, 69, 68, 67, 66] = num ⟨24, rd, rn, rm, ra, imm, cond, false⟩ := by
  have b0 := fv_lt (off imm) 2 2048 (by decide)
  have g0 : rhalf ⟨24, rd, rn, rm, ra, imm, cond, false⟩ 0 [49, 49, 49, 48, 48, 76, 75, 74, 73, 72, 71, 70, 69, 68, 67, 66] = num ⟨24, rd, rn, rm, ra, imm, cond, false⟩ := by
    show (bd (off imm) 1 11 (2 * (2 * (2 * (2 * (2 * 0 + 1) + 1) + 1) + 0) + 0)) = _
    rw [bdl (off imm) 1 11 _ 2 2048 (by decide) (by decide)]
    rw [num24n]
    omega
  exact g0
theorem half24w (rd rn rm ra imm cond : Int) (hi : 0 ≤ off imm) : rhalf ⟨24, rd, rn, rm, ra, imm, cond, true⟩ 0 [49, 49, 49, 49, 48, 89, 86, 85, 84, 83, 82, 81, 80, 79, 78, 77] = num ⟨24, rd, rn, rm, ra, imm, cond, true⟩ / 65536 ∧ rhalf ⟨24, rd, rn, rm, ra, imm, cond, true⟩ 0 [49, 48, 120, 49, 121, 76, 75, 74, 73, 72, 71, 70, 69, 68, 67, 66] = num ⟨24, rd, rn, rm, ra, imm, cond, true⟩ % 65536 := by
  have x23 : 1 - (rbit (off imm) 23 + rbit (off imm) 24) % 2 = fv (alike (off imm) 23 24) 1 2 := by
    rw [alike_fv (off imm) 23 24 8388608 16777216 (by decide) (by decide) hi]
    have e1 : rbit (off imm) 23 = fv (off imm) 8388608 2 := by unfold rbit fv; rw [show (2 : Nat) ^ 23 = 8388608 by decide]
    have e2 : rbit (off imm) 24 = fv (off imm) 16777216 2 := by unfold rbit fv; rw [show (2 : Nat) ^ 24 = 16777216 by decide]
    have c1 := fv_lt (off imm) 8388608 2 (by decide)
    have c2 := fv_lt (off imm) 16777216 2 (by decide)
    rw [e1, e2]; split <;> omega
  have x22 : 1 - (rbit (off imm) 22 + rbit (off imm) 24) % 2 = fv (alike (off imm) 22 24) 1 2 := by
    rw [alike_fv (off imm) 22 24 4194304 16777216 (by decide) (by decide) hi]
    have e1 : rbit (off imm) 22 = fv (off imm) 4194304 2 := by unfold rbit fv; rw [show (2 : Nat) ^ 22 = 4194304 by decide]
    have e2 : rbit (off imm) 24 = fv (off imm) 16777216 2 := by unfold rbit fv; rw [show (2 : Nat) ^ 24 = 16777216 by decide]
    have c1 := fv_lt (off imm) 4194304 2 (by decide)
    have c2 := fv_lt (off imm) 16777216 2 (by decide)
    rw [e1, e2]; split <;> omega
  have b0 := fv_lt (off imm) 16777216 2 (by decide)
  have b1 := fv_lt (off imm) 4096 1024 (by decide)
  have b2 := fv_lt (alike (off imm) 23 24) 1 2 (by decide)
  have b3 := fv_lt (alike (off imm) 22 24) 1 2 (by decide)
  have b4 := fv_lt (off imm) 2 2048 (by decide)
  have g0 : rhalf ⟨24, rd, rn, rm, ra, imm, cond, true⟩ 0 [49, 49, 49, 49, 48, 89, 86, 85, 84, 83, 82, 81, 80, 79, 78, 77] = num ⟨24, rd, rn, rm, ra, imm, cond, true⟩ / 65536 := by
    show (bd (off imm) 12 10 (bd (off imm) 24 1 (2 * (2 * (2 * (2 * (2 * 0 + 1) + 1) + 1) + 1) + 0))) = _
    rw [bdl (off imm) 12 10 _ 4096 1024 (by decide) (by decide)]
    rw [bdl (off imm) 24 1 _ 16777216 2 (by decide) (by decide)]
    rw [num24w]
    omega
  have g1 : rhalf ⟨24, rd, rn, rm, ra, imm, cond, true⟩ 0 [49, 48, 120, 49, 121, 76, 75, 74, 73, 72, 71, 70, 69, 68, 67, 66] = num ⟨24, rd, rn, rm, ra, imm, cond, true⟩ % 65536 := by
    show (bd (off imm) 1 11 (2 * (2 * (2 * (2 * (2 * 0 + 1) + 0) + (1 - (rbit (off imm) 23 + rbit (off imm) 24) % 2)) + 1) + (1 - (rbit (off imm) 22 + rbit (off imm) 24) % 2))) = _
    rw [bdl (off imm) 1 11 _ 2 2048 (by decide) (by decide)]
    rw [num24w]
    rw [x23, x22]
    omega
  exact ⟨g0, g1⟩
theorem half25n (rd rn rm ra imm cond : Int) : rhalf ⟨25, rd, rn, rm, ra, imm, cond, false⟩ 0 [49, 49, 48, 49, 99, 99, 99, 99, 73, 72, 71, 70, 69, 68, 67, 66] = num ⟨25, rd, rn, rm, ra, imm, cond, false⟩ := by
  have b0 := fv_lt cond 1 16 (by decide)
  have b1 := fv_lt (off imm) 2 256 (by decide)
  have g0 : rhalf ⟨25, rd, rn, rm, ra, imm, cond, false⟩ 0 [49, 49, 48, 49, 99, 99, 99, 99, 73, 72, 71, 70, 69, 68, 67, 66] = num ⟨25, rd, rn, rm, ra, imm, cond, false⟩ := by
    show (bd (off imm) 1 8 (bd cond 0 4 (2 * (2 * (2 * (2 * 0 + 1) + 1) + 0) + 1))) = _
    rw [bdl (off imm) 1 8 _ 2 256 (by decide) (by decide)]
    rw [bdl cond 0 4 _ 1 16 (by decide) (by decide)]
    rw [num25n]
    omega
  exact g0
theorem half25w (rd rn rm ra imm cond : Int) : rhalf ⟨25, rd, rn, rm, ra, imm, cond, true⟩ 0 [49, 49, 49, 49, 48, 85, 99, 99, 99, 99, 82, 81, 80, 79, 78, 77] = num ⟨25, rd, rn, rm, ra, imm, cond, true⟩ / 65536 ∧ rhalf ⟨25, rd, rn, rm, ra, imm, cond, true⟩ 0 [49, 48, 83, 48, 84, 76, 75, 74, 73, 72, 71, 70, 69, 68, 67, 66] = num ⟨25, rd, rn, rm, ra, imm, cond, true⟩ % 65536 := by
  have b0 := fv_lt (off imm) 1048576 2 (by decide)
  have b1 := fv_lt cond 1 16 (by decide)
  have b2 := fv_lt (off imm) 4096 64 (by decide)
  have b3 := fv_lt (off imm) 262144 2 (by decide)
  have b4 := fv_lt (off imm) 524288 2 (by decide)
  have b5 := fv_lt (off imm) 2 2048 (by decide)
  have g0 : rhalf ⟨25, rd, rn, rm, ra, imm, cond, true⟩ 0 [49, 49, 49, 49, 48, 85, 99, 99, 99, 99, 82, 81, 80, 79, 78, 77] = num ⟨25, rd, rn, rm, ra, imm, cond, true⟩ / 65536 := by
    show (bd (off imm) 12 6 (bd cond 0 4 (bd (off imm) 20 1 (2 * (2 * (2 * (2 * (2 * 0 + 1) + 1) + 1) + 1) + 0)))) = _
    rw [bdl (off imm) 12 6 _ 4096 64 (by decide) (by decide)]
    rw [bdl cond 0 4 _ 1 16 (by decide) (by decide)]
    rw [bdl (off imm) 20 1 _ 1048576 2 (by decide) (by decide)]
    rw [num25w]
    omega
  have g1 : rhalf ⟨25, rd, rn, rm, ra, imm, cond, true⟩ 0 [49, 48, 83, 48, 84, 76, 75, 74, 73, 72, 71, 70, 69, 68, 67, 66] = num ⟨25, rd, rn, rm, ra, imm, cond, true⟩ % 65536 := by
    show (bd (off imm) 1 11 (bd (off imm) 19 1 (2 * (bd (off imm) 18 1 (2 * (2 * 0 + 1) + 0)) + 0))) = _
    rw [bdl (off imm) 1 11 _ 2 2048 (by decide) (by decide)]
    rw [bdl (off imm) 19 1 _ 524288 2 (by decide) (by decide)]
    rw [bdl (off imm) 18 1 _ 262144 2 (by decide) (by decide)]
    rw [num25w]
    omega
  exact ⟨g0, g1⟩
end Go.Proofs.Ytplfpaffjaldoaa.Th
end
