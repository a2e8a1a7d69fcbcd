/-
  Plain mathematics of numbers of 32 bits: what the calls of package word tell, as functions on integers, and their laws. It names nothing of the translated program.
-/
import Derived.WalkKit
import Derived.Laws.Bits64
namespace Go.Proofs.Ytennhpfhgbmnfaa.Wd
open Go.RowKit

def wrap (n : Int) : Int := n % 4294967296
def add (a b : Int) : Int := (a + b) % 4294967296
def sub (a b : Int) : Int := (a - b) % 4294967296
def mul (a b : Int) : Int := (a * b) % 4294967296
def high (a b : Int) : Int := (wrap a * wrap b) / 4294967296
def carry (a b : Int) : Int := (wrap a + wrap b) / 4294967296
def cnt (n : Int) : Nat := (n % 32).toNat
def not (a : Int) : Int := 4294967295 - wrap a
def and (a b : Int) : Int := (((wrap a).toNat &&& (wrap b).toNat : Nat) : Int)
def or (a b : Int) : Int := (((wrap a).toNat ||| (wrap b).toNat : Nat) : Int)
def xor (a b : Int) : Int := (((wrap a).toNat ^^^ (wrap b).toNat : Nat) : Int)
def select (m a b : Int) : Int := or (and m a) (and (not m) b)
def shl (a n : Int) : Int := (wrap a * 2 ^ cnt n) % 4294967296
def shr (a n : Int) : Int := wrap a / 2 ^ cnt n
def bit (a i : Int) : Int := shr a i % 2
def flip (a i : Int) : Int := xor a (2 ^ cnt i)
def mask (b : Bool) : Int := if b then 4294967295 else 0
def less (a b : Int) : Int := mask (decide (wrap a < wrap b))
def same (a b : Int) : Int := mask (wrap a == wrap b)
/-- turned, and shifted with the sign, by k bits, in natural numbers -/
def rorN (A k : Nat) : Nat := A / 2 ^ k + A % 2 ^ k * 2 ^ (32 - k)
def sarN (A k : Nat) : Nat := A / 2 ^ k + A / 2 ^ 31 * (2 ^ 32 - 2 ^ (32 - k))
def ror (a n : Int) : Int := ((rorN (wrap a).toNat (cnt n) : Nat) : Int)
def sar (a n : Int) : Int := ((sarN (wrap a).toNat (cnt n) : Nat) : Int)

theorem wrap_bd (n : Int) : 0 ≤ wrap n ∧ wrap n < 4294967296 := by unfold wrap; omega

/-! ### the walk's own forms -/
theorem ofInt_toNat (n : Int) : (BitVec.ofInt 64 n).toNat = (n % 18446744073709551616).toNat := by
  rw [BitVec.toNat_ofInt]; rfl
theorem i64_small (n : Nat) (h : n < 9223372036854775808) : IntKind.i64.wrap (n : Int) = n := by
  rw [IntKind.wrap_i64]; omega
theorem and_ones (n : Int) : bits .and .i64 n 4294967295 = wrap n := by
  show IntKind.i64.wrap ((BitVec.ofInt 64 n &&& BitVec.ofInt 64 4294967295).toNat : Int) = _
  rw [BitVec.toNat_and, ofInt_toNat, ofInt_toNat]
  have e : ((4294967295 : Int) % 18446744073709551616).toNat = 2 ^ 32 - 1 := by decide
  rw [e, Nat.and_two_pow_sub_one_eq_mod, i64_small _ (by omega)]
  unfold wrap; omega
theorem and_31 (n : Int) : bits .and .i64 n 31 = (cnt n : Int) := by
  show IntKind.i64.wrap ((BitVec.ofInt 64 n &&& BitVec.ofInt 64 31).toNat : Int) = _
  rw [BitVec.toNat_and, ofInt_toNat, ofInt_toNat]
  have e : ((31 : Int) % 18446744073709551616).toNat = 2 ^ 5 - 1 := by decide
  rw [e, Nat.and_two_pow_sub_one_eq_mod, i64_small _ (by omega)]
  unfold cnt; omega
theorem cnt_lt (n : Int) : (cnt n : Int) < 32 := by unfold cnt; omega
theorem shr_bd (a n : Int) : 0 ≤ shr a n ∧ shr a n < 4294967296 := by
  have h := wrap_bd a
  unfold shr
  refine ⟨Int.ediv_nonneg h.1 (Int.pow_nonneg (by decide)), ?_⟩
  have := Int.ediv_le_self (2 ^ cnt n) h.1
  omega
theorem add_eq (a b : Int) : wrap (wrap a + wrap b) = add a b := by unfold wrap add; omega
theorem sub_eq (a b : Int) : wrap (wrap a - wrap b) = sub a b := by unfold wrap sub; omega
theorem rsub_eq (a b : Int) : wrap (wrap a + 4294967296 - wrap b) = sub a b := by unfold wrap sub; omega
theorem prod_bd (a b : Int) : 0 ≤ wrap a * wrap b ∧ wrap a * wrap b < 18446744073709551616 := by
  have ha := wrap_bd a
  have hb := wrap_bd b
  refine ⟨Int.mul_nonneg ha.1 hb.1, ?_⟩
  have := Int.mul_le_mul (show wrap a ≤ 4294967295 by omega) (show wrap b ≤ 4294967295 by omega) hb.1 (by decide)
  omega
theorem u64_wrap (n : Int) (h0 : 0 ≤ n) (h1 : n < 18446744073709551616) : IntKind.u64.wrap n = n := by rw [IntKind.wrap_u64]; omega
theorem prod_u64 (a b : Int) : IntKind.u64.wrap (IntKind.u64.wrap (wrap a) * IntKind.u64.wrap (wrap b)) = wrap a * wrap b := by
  have ha := wrap_bd a
  have hb := wrap_bd b
  have hp := prod_bd a b
  rw [u64_wrap (wrap a) ha.1 (by omega), u64_wrap (wrap b) hb.1 (by omega), u64_wrap _ hp.1 hp.2]
theorem i64_bits (op : BinOp) (a b : Int) : bits op .i64 a b = IntKind.i64.wrap ((match op with | .and => BitVec.ofInt 64 a &&& BitVec.ofInt 64 b | .or => BitVec.ofInt 64 a ||| BitVec.ofInt 64 b | .xor => BitVec.ofInt 64 a ^^^ BitVec.ofInt 64 b | _ => BitVec.ofInt 64 a &&& ~~~(BitVec.ofInt 64 b)).toNat : Int) := rfl
theorem wrap_i64 (n : Int) : wrap (IntKind.i64.wrap n) = wrap n := by rw [IntKind.wrap_i64]; unfold wrap; omega
theorem low (n : Int) : (wrap n).toNat = (n % 18446744073709551616).toNat % 2 ^ 32 := by unfold wrap; omega
theorem and_eq (a b : Int) : wrap (bits .and .i64 a b) = and a b := by
  rw [i64_bits, wrap_i64]
  show wrap ((BitVec.ofInt 64 a &&& BitVec.ofInt 64 b).toNat : Int) = _
  rw [BitVec.toNat_and, ofInt_toNat, ofInt_toNat]
  unfold and
  rw [low a, low b, ← Nat.and_mod_two_pow]
  unfold wrap; omega
theorem or_eq (a b : Int) : wrap (bits .or .i64 a b) = or a b := by
  rw [i64_bits, wrap_i64]
  show wrap ((BitVec.ofInt 64 a ||| BitVec.ofInt 64 b).toNat : Int) = _
  rw [BitVec.toNat_or, ofInt_toNat, ofInt_toNat]
  unfold or
  rw [low a, low b, ← Nat.or_mod_two_pow]
  unfold wrap; omega
theorem xor_eq (a b : Int) : wrap (bits .xor .i64 a b) = xor a b := by
  rw [i64_bits, wrap_i64]
  show wrap ((BitVec.ofInt 64 a ^^^ BitVec.ofInt 64 b).toNat : Int) = _
  rw [BitVec.toNat_xor, ofInt_toNat, ofInt_toNat]
  unfold xor
  rw [low a, low b, ← Nat.xor_mod_two_pow]
  unfold wrap; omega
theorem rwrap_eq (n : Int) : wrap64 ((IntKind.u64.wrap n).tmod 4294967296) = wrap n := by
  rw [IntKind.wrap_u64, Int.tmod_eq_emod_of_nonneg (by omega)]
  unfold wrap wrap64; omega
theorem wrap64_in (n : Int) (h0 : -9223372036854775808 ≤ n) (h1 : n < 9223372036854775808) : wrap64 n = n := by unfold wrap64; omega
theorem wrap_wrap64 (n : Int) : wrap (wrap64 n) = wrap n := by unfold wrap wrap64; omega
theorem wrap_wrap (n : Int) : wrap (wrap n) = wrap n := by unfold wrap; omega
theorem mul_wraps (a b : Int) : (wrap a * wrap b) % 4294967296 = mul a b := by
  unfold wrap mul; rw [← Int.mul_emod]
theorem prod_u64' (a b : Int) : IntKind.u64.wrap (wrap a * wrap b) = wrap a * wrap b := u64_wrap _ (prod_bd a b).1 (prod_bd a b).2
theorem mul_eq (a b : Int) : wrap64 (bits .and .u64 (wrap a * wrap b) 4294967295) = mul a b := by
  have hp := prod_bd a b
  rw [← mul_wraps]
  generalize wrap a * wrap b = p at *
  show wrap64 (IntKind.u64.wrap ((BitVec.ofInt 64 p &&& BitVec.ofInt 64 4294967295).toNat : Int)) = _
  rw [BitVec.toNat_and, ofInt_toNat, ofInt_toNat]
  have e : ((4294967295 : Int) % 18446744073709551616).toNat = 2 ^ 32 - 1 := by decide
  rw [e, Nat.and_two_pow_sub_one_eq_mod, IntKind.wrap_u64]
  unfold wrap64; omega
theorem high_eq (a b : Int) : wrap64 (wrap a * wrap b / 4294967296) = high a b := by
  have hp := prod_bd a b
  unfold high
  generalize wrap a * wrap b = p at *
  unfold wrap64; omega
theorem rmul_eq (a b : Int) : wrap64 ((IntKind.u64.wrap (wrap a * wrap b)).tmod 4294967296) = mul a b := by
  have hp := prod_bd a b
  rw [prod_u64', ← mul_wraps, Int.tmod_eq_emod_of_nonneg hp.1]
  generalize wrap a * wrap b = p at *
  unfold wrap64; omega
theorem rhigh_eq (a b : Int) : wrap64 (IntKind.u64.wrap ((IntKind.u64.wrap (wrap a * wrap b)).tdiv 4294967296)) = high a b := by
  have hp := prod_bd a b
  rw [prod_u64', Int.tdiv_eq_ediv_of_nonneg hp.1]
  unfold high
  generalize wrap a * wrap b = p at *
  rw [IntKind.wrap_u64]
  unfold wrap64; omega
theorem rmany_eq (n : Int) : wrap64 ((IntKind.u64.wrap n).tmod 32) = (cnt n : Int) := by
  rw [IntKind.wrap_u64, Int.tmod_eq_emod_of_nonneg (by omega)]
  unfold cnt wrap64; omega
theorem ones_xor (x : Nat) (h : x < 2 ^ 32) : (2 ^ 32 - 1) ^^^ x = 2 ^ 32 - 1 - x := by
  apply Nat.eq_of_testBit_eq
  intro i
  have e : 2 ^ 32 - 1 - x = 2 ^ 32 - (x + 1) := by omega
  rw [e, Nat.testBit_xor, Nat.testBit_two_pow_sub_one, Nat.testBit_two_pow_sub_succ h]
  by_cases hi : i < 32
  · simp [hi]
  · simp only [hi, decide_false, Bool.false_xor, Bool.false_and]
    exact Nat.testBit_lt_two_pow (Nat.lt_of_lt_of_le h (Nat.pow_le_pow_right (by decide) (by omega)))
theorem not_eq (a : Int) : wrap (bits .xor .i64 (-1) a) = not a := by
  rw [xor_eq]
  have h := wrap_bd a
  unfold xor not
  have e : (wrap (-1)).toNat = 2 ^ 32 - 1 := by decide
  rw [e, ones_xor _ (by omega)]
  omega
theorem shl_eq (a n : Int) : wrap (wrap64 (wrap a * 2 ^ cnt n)) = shl a n := by rw [wrap_wrap64]; rfl
theorem and_1 (n : Int) : bits .and .i64 n 1 = n % 2 := by
  show IntKind.i64.wrap ((BitVec.ofInt 64 n &&& BitVec.ofInt 64 1).toNat : Int) = _
  rw [BitVec.toNat_and, ofInt_toNat, ofInt_toNat]
  have e : ((1 : Int) % 18446744073709551616).toNat = 2 ^ 1 - 1 := by decide
  rw [e, Nat.and_two_pow_sub_one_eq_mod, i64_small _ (by omega)]
  omega
theorem bit_eq (a n : Int) : bits .and .i64 (shr a n) 1 = bit a n := and_1 _
theorem flip_eq (a n : Int) : xor a (wrap64 (2 ^ cnt n)) = flip a n := by unfold flip xor; rw [wrap_wrap64]
theorem or_nat (x y : Nat) (hx : x < 4294967296) (hy : y < 4294967296) : bits .or .i64 (x : Int) (y : Int) = ((x ||| y : Nat) : Int) := by
  have hor : x ||| y < 2 ^ 32 := Nat.or_lt_two_pow (by omega) (by omega)
  show IntKind.i64.wrap ((BitVec.ofInt 64 (x : Int) ||| BitVec.ofInt 64 (y : Int)).toNat : Int) = _
  rw [BitVec.toNat_or, ofInt_toNat, ofInt_toNat]
  have e1 : ((x : Int) % 18446744073709551616).toNat = x := by omega
  have e2 : ((y : Int) % 18446744073709551616).toNat = y := by omega
  rw [e1, e2, i64_small _ (by omega)]
theorem pow_cast (k : Nat) : ((2 : Int) ^ k) = ((2 ^ k : Nat) : Int) := by simp
/-- turned by k bits, in natural numbers -/
theorem ror_nat (A k : Nat) (hk : k < 32) (hA : A < 2 ^ 32) : A / 2 ^ k ||| A * 2 ^ (32 - k) % 2 ^ 32 = A / 2 ^ k + A % 2 ^ k * 2 ^ (32 - k) := by
  have e : A * 2 ^ (32 - k) % 2 ^ 32 = 2 ^ (32 - k) * (A % 2 ^ k) := by
    have h32 : (2 : Nat) ^ 32 = 2 ^ (32 - k) * 2 ^ k := by rw [← Nat.pow_add]; congr 1; omega
    rw [h32, Nat.mul_comm A, Nat.mul_mod_mul_left]
  have hq : A / 2 ^ k < 2 ^ (32 - k) := by
    rw [Nat.div_lt_iff_lt_mul (Nat.two_pow_pos k), ← Nat.pow_add]
    have : 32 - k + k = 32 := by omega
    rw [this]; exact hA
  rw [e, Nat.or_comm, ← Nat.two_pow_add_eq_or_of_lt hq]
  rw [Nat.mul_comm (2 ^ (32 - k)), Nat.add_comm]
theorem ror_eq (a n : Int) : bits .or .i64 (shr a n) (wrap (wrap64 (wrap a * 2 ^ (32 - cnt n)))) = ror a n := by
  rw [wrap_wrap64]
  have h := wrap_bd a
  have hc := cnt_lt n
  unfold shr ror
  obtain ⟨A, hA⟩ := Int.eq_ofNat_of_zero_le h.1
  rw [hA] at h ⊢
  generalize cnt n = k at *
  have hw : wrap ((A : Int) * 2 ^ (32 - k)) = ((A * 2 ^ (32 - k) % 2 ^ 32 : Nat) : Int) := by
    unfold wrap; rw [pow_cast, ← Int.natCast_mul]; generalize A * 2 ^ (32 - k) = p; omega
  have hs : (A : Int) / 2 ^ k = ((A / 2 ^ k : Nat) : Int) := by rw [pow_cast]; push_cast; rfl
  rw [hw, hs, or_nat]
  · rw [ror_nat A k (by omega) (by omega)]; rfl
  · have := Nat.div_le_self A (2 ^ k); omega
  · omega
theorem div_lt (A k : Nat) (hA : A < 2 ^ 32) (hk : k ≤ 32) : A / 2 ^ k < 2 ^ (32 - k) := by
  rw [Nat.div_lt_iff_lt_mul (Nat.two_pow_pos k), ← Nat.pow_add]
  have : 32 - k + k = 32 := by omega
  rw [this]; exact hA
theorem pow_split (k : Nat) (hk : k ≤ 32) : (2 : Nat) ^ (32 - k) * 2 ^ k = 2 ^ 32 := by
  rw [← Nat.pow_add]; congr 1; omega
theorem rorN_lt (A k : Nat) (hA : A < 2 ^ 32) (hk : k ≤ 32) : rorN A k < 2 ^ 32 := by
  unfold rorN
  have h1 := div_lt A k hA hk
  have h2 := pow_split k hk
  have h3 : A % 2 ^ k + 1 ≤ 2 ^ k := Nat.mod_lt _ (Nat.two_pow_pos k)
  have h4 : (A % 2 ^ k + 1) * 2 ^ (32 - k) ≤ 2 ^ k * 2 ^ (32 - k) := Nat.mul_le_mul_right _ h3
  rw [Nat.mul_comm (2 ^ k), h2, Nat.add_mul, Nat.one_mul] at h4
  omega
theorem rorN_zero (A : Nat) : rorN A 0 = A := by simp [rorN, Nat.mod_one]
theorem sarN_zero (A : Nat) : sarN A 0 = A := by simp [sarN]
theorem rorN_step (A k : Nat) (hk : k < 32) : rorN A k / 2 + rorN A k % 2 * 2147483648 = rorN A (k + 1) := by
  unfold rorN
  have e1 : (2 : Nat) ^ (32 - k) = 2 * 2 ^ (32 - (k + 1)) := by
    have : 32 - k = 32 - (k + 1) + 1 := by omega
    rw [this, Nat.pow_succ, Nat.mul_comm]
  have e2 : A % 2 ^ (k + 1) = A % 2 ^ k + 2 ^ k * (A / 2 ^ k % 2) := Nat.mod_pow_succ
  have e3 : A / 2 ^ (k + 1) = A / 2 ^ k / 2 := by rw [Nat.pow_succ, Nat.div_div_eq_div_mul]
  have e4 : (2 : Nat) ^ k * 2 ^ (32 - (k + 1)) = 2147483648 := by
    rw [← Nat.pow_add]; have : k + (32 - (k + 1)) = 31 := by omega
    rw [this]
  rw [e2, e3, e1, Nat.add_mul]
  have e5 : 2 ^ k * (A / 2 ^ k % 2) * 2 ^ (32 - (k + 1)) = A / 2 ^ k % 2 * 2147483648 := by
    rw [Nat.mul_right_comm, e4, Nat.mul_comm]
  have e6 : A % 2 ^ k * (2 * 2 ^ (32 - (k + 1))) = 2 * (A % 2 ^ k * 2 ^ (32 - (k + 1))) := by
    rw [Nat.mul_left_comm]
  rw [e5, e6]
  generalize A % 2 ^ k * 2 ^ (32 - (k + 1)) = x
  generalize A / 2 ^ k = y
  omega
theorem sarN_lt (A k : Nat) (hA : A < 2 ^ 32) (hk : k ≤ 32) : sarN A k < 2 ^ 32 := by
  unfold sarN
  have h1 := div_lt A k hA hk
  have h2 : (2 : Nat) ^ (32 - k) ≤ 2 ^ 32 := Nat.pow_le_pow_right (by decide) (by omega)
  generalize (2 : Nat) ^ (32 - k) = p at *
  rcases (show A / 2 ^ 31 = 0 ∨ A / 2 ^ 31 = 1 by omega) with h | h
  · rw [h]; omega
  · rw [h]; omega
theorem sarN_step (A k : Nat) (hA : A < 2 ^ 32) (hk : k < 32) : sarN A k / 2 + sarN A k / 2147483648 * 2147483648 = sarN A (k + 1) := by
  unfold sarN
  have e1 : (2 : Nat) ^ (32 - k) = 2 * 2 ^ (32 - (k + 1)) := by
    have : 32 - k = 32 - (k + 1) + 1 := by omega
    rw [this, Nat.pow_succ, Nat.mul_comm]
  have e3 : A / 2 ^ (k + 1) = A / 2 ^ k / 2 := by rw [Nat.pow_succ, Nat.div_div_eq_div_mul]
  have h1 := div_lt A k hA (by omega)
  have h2 : (2 : Nat) ^ (32 - (k + 1)) ≤ 2 ^ 31 := Nat.pow_le_pow_right (by decide) (by omega)
  by_cases hz : k = 0
  · subst hz
    simp only [Nat.pow_zero, Nat.div_one, Nat.sub_zero, Nat.sub_self, Nat.mul_zero, Nat.add_zero]
  · have h3 : (2 : Nat) ^ (32 - (k + 1)) ≤ 2 ^ 30 := Nat.pow_le_pow_right (by decide) (by omega)
    rw [e3, e1]
    rw [e1] at h1
    have hle : A / 2 ^ k ≤ A := Nat.div_le_self _ _
    generalize (2 : Nat) ^ (32 - (k + 1)) = p at *
    generalize A / 2 ^ k = y at *
    rcases (show A / 2 ^ 31 = 0 ∨ A / 2 ^ 31 = 1 by omega) with h | h
    · rw [h]; omega
    · rw [h]; omega
/-- one bit more from above, by an or -/
theorem or_bit (q r j : Nat) (h : r < 2 ^ j) : (2 ^ (j + 1) * q + r) ||| 2 ^ j = 2 ^ (j + 1) * q + r + 2 ^ j := by
  have h1 : r < 2 ^ (j + 1) := Nat.lt_of_lt_of_le h (Nat.pow_le_pow_right (by decide) (by omega))
  have h2 : 2 ^ j * 1 + r < 2 ^ (j + 1) := by rw [Nat.pow_succ]; omega
  have e : 2 ^ j ||| r = 2 ^ j * 1 + r := by rw [Nat.two_pow_add_eq_or_of_lt h, Nat.mul_one]
  have e2 : (2 ^ (j + 1) * q + r) ||| 2 ^ j = 2 ^ (j + 1) * q + (2 ^ j * 1 + r) := by
    rw [Nat.two_pow_add_eq_or_of_lt h1, Nat.or_assoc, Nat.or_comm r, e, ← Nat.two_pow_add_eq_or_of_lt h2]
  rw [e2, Nat.mul_one]
  generalize 2 ^ (j + 1) * q = x
  omega
/-- word's way: bits 31, 30, .. are laid, i of them so far -/
def sarW (A k i : Nat) : Nat := A / 2 ^ k + A / 2 ^ 31 * (2 ^ 32 - 2 ^ (32 - i))
theorem sarW_zero (A k : Nat) : sarW A k 0 = A / 2 ^ k := by simp [sarW]
theorem sarW_all (A k : Nat) : sarW A k k = sarN A k := rfl
theorem sarW_lt (A k i : Nat) (hA : A < 2 ^ 32) (hk : k ≤ 32) (hi : i ≤ k) : sarW A k i < 2 ^ 32 := by
  unfold sarW
  have h1 := div_lt A k hA hk
  have h2 : (2 : Nat) ^ (32 - i) ≤ 2 ^ 32 := Nat.pow_le_pow_right (by decide) (by omega)
  have h3 : (2 : Nat) ^ (32 - k) ≤ 2 ^ (32 - i) := Nat.pow_le_pow_right (by decide) (by omega)
  generalize (2 : Nat) ^ (32 - i) = p at *
  generalize (2 : Nat) ^ (32 - k) = p' at *
  rcases (show A / 2 ^ 31 = 0 ∨ A / 2 ^ 31 = 1 by omega) with h | h
  · rw [h]; omega
  · rw [h]; omega
theorem sarW_step (A k i : Nat) (hA : A < 2 ^ 32) (hk : k < 32) (hi : i < k) : sarW A k i ||| A / 2 ^ 31 * 2 ^ (31 - i) = sarW A k (i + 1) := by
  have h1 := div_lt A k hA (by omega)
  have h3 : (2 : Nat) ^ (32 - k) ≤ 2 ^ (31 - i) := Nat.pow_le_pow_right (by decide) (by omega)
  rcases (show A / 2 ^ 31 = 0 ∨ A / 2 ^ 31 = 1 by omega) with h | h
  · unfold sarW; rw [h]; simp
  · have e : 32 - i = 31 - i + 1 := by omega
    have e' : 32 - (i + 1) = 31 - i := by omega
    have hq : (2 : Nat) ^ 32 - 2 ^ (32 - i) = 2 ^ (31 - i + 1) * (2 ^ i - 1) := by
      rw [Nat.mul_sub, ← Nat.pow_add, Nat.mul_one, ← e, show 32 - i + i = 32 by omega]
    unfold sarW
    rw [h, Nat.one_mul, Nat.one_mul, Nat.one_mul, hq, Nat.add_comm (A / 2 ^ k), or_bit _ _ _ (Nat.lt_of_lt_of_le h1 h3), ← hq, e, e']
    have h5 : (2 : Nat) ^ (31 - i + 1) = 2 * 2 ^ (31 - i) := by rw [Nat.pow_succ, Nat.mul_comm]
    have h6 : (2 : Nat) ^ (31 - i + 1) ≤ 2 ^ 32 := Nat.pow_le_pow_right (by decide) (by omega)
    omega
/-! ### bits -/
theorem cnt_nat (k : Nat) (hk : k < 32) : cnt (k : Int) = k := by unfold cnt; omega
theorem bit_nat (a : Int) (k : Nat) (hk : k < 32) : bit a (k : Int) = (((wrap a).toNat.testBit k).toNat : Int) := by
  have h := wrap_bd a
  unfold bit shr
  rw [cnt_nat k hk, Nat.toNat_testBit]
  obtain ⟨A, hA⟩ := Int.eq_ofNat_of_zero_le h.1
  rw [hA, pow_cast]; push_cast; rfl
theorem bit_cnt (a i : Int) : bit a i = bit a (cnt i : Int) := by
  unfold bit shr; rw [cnt_nat _ (by have := cnt_lt i; omega)]
theorem bit_is (a i : Int) : bit a i = (((wrap a).toNat.testBit (cnt i)).toNat : Int) := by
  rw [bit_cnt, bit_nat _ _ (by have := cnt_lt i; omega)]
theorem bit_bd (a i : Int) : 0 ≤ bit a i ∧ bit a i ≤ 1 := by unfold bit; omega
theorem half (V k : Nat) : V / 2 ^ k = 2 * (V / 2 ^ (k + 1)) + (V.testBit k).toNat := by
  rw [Nat.toNat_testBit, Nat.pow_succ, ← Nat.div_div_eq_div_mul]; omega
theorem upto (V k : Nat) : V % 2 ^ (k + 1) = V % 2 ^ k + 2 ^ k * (V.testBit k).toNat := by
  rw [Nat.toNat_testBit]; exact Nat.mod_pow_succ
theorem tb_hi (a : Int) (k : Nat) (hk : 32 ≤ k) : (wrap a).toNat.testBit k = false := by
  have h := wrap_bd a
  apply Nat.testBit_lt_two_pow
  exact Nat.lt_of_lt_of_le (show (wrap a).toNat < 2 ^ 32 by omega) (Nat.pow_le_pow_right (by decide) hk)
theorem wrap_nat (V : Nat) (h : V < 2 ^ 32) : (wrap (V : Int)).toNat = V := by unfold wrap; omega
theorem and_lt (a b : Int) : (wrap a).toNat &&& (wrap b).toNat < 2 ^ 32 := Nat.and_lt_two_pow _ (by have := wrap_bd b; omega)
theorem or_lt (a b : Int) : (wrap a).toNat ||| (wrap b).toNat < 2 ^ 32 := Nat.or_lt_two_pow (by have := wrap_bd a; omega) (by have := wrap_bd b; omega)
theorem xor_lt (a b : Int) : (wrap a).toNat ^^^ (wrap b).toNat < 2 ^ 32 := Nat.xor_lt_two_pow (by have := wrap_bd a; omega) (by have := wrap_bd b; omega)
theorem not_lt (a : Int) : 2 ^ 32 - 1 - (wrap a).toNat < 2 ^ 32 := by omega
/-- each told word as a natural number, with its bits -/
def IsWord (V : Int) (f : Nat → Bool) : Prop := ∃ N : Nat, V = (N : Int) ∧ N < 2 ^ 32 ∧ ∀ k, k < 32 → N.testBit k = f k
theorem isWord_wrap (a : Int) : IsWord (wrap a) (fun k => (wrap a).toNat.testBit k) :=
  ⟨(wrap a).toNat, by have := wrap_bd a; omega, by have := wrap_bd a; omega, fun _ _ => rfl⟩
theorem isWord_not (a : Int) : IsWord (not a) (fun k => !(wrap a).toNat.testBit k) := by
  have h := wrap_bd a
  refine ⟨2 ^ 32 - 1 - (wrap a).toNat, by unfold not; omega, by omega, fun k hk => ?_⟩
  have e : 2 ^ 32 - 1 - (wrap a).toNat = 2 ^ 32 - ((wrap a).toNat + 1) := by omega
  rw [e, Nat.testBit_two_pow_sub_succ (by omega)]
  simp [hk]
theorem isWord_and (a b : Int) : IsWord (and a b) (fun k => (wrap a).toNat.testBit k && (wrap b).toNat.testBit k) :=
  ⟨_, rfl, and_lt a b, fun _ _ => Nat.testBit_and _ _ _⟩
theorem isWord_or (a b : Int) : IsWord (or a b) (fun k => (wrap a).toNat.testBit k || (wrap b).toNat.testBit k) :=
  ⟨_, rfl, or_lt a b, fun _ _ => Nat.testBit_or _ _ _⟩
theorem isWord_xor (a b : Int) : IsWord (xor a b) (fun k => ((wrap a).toNat.testBit k ^^ (wrap b).toNat.testBit k)) :=
  ⟨_, rfl, xor_lt a b, fun _ _ => Nat.testBit_xor _ _ _⟩
theorem IsWord.tb {V : Int} {f : Nat → Bool} (h : IsWord V f) (k : Nat) (hk : k < 32) : (wrap V).toNat.testBit k = f k := by
  obtain ⟨N, rfl, hN, hf⟩ := h
  rw [wrap_nat N hN, hf k hk]
theorem isWord_select (m a b : Int) : IsWord (select m a b) (fun k => if (wrap m).toNat.testBit k then (wrap a).toNat.testBit k else (wrap b).toNat.testBit k) := by
  refine ⟨_, rfl, or_lt _ _, fun k hk => ?_⟩
  rw [Nat.testBit_or, (isWord_and m a).tb k hk, (isWord_and (not m) b).tb k hk, (isWord_not m).tb k hk]
  by_cases h : (wrap m).toNat.testBit k = true
  · simp [h]
  · simp only [Bool.not_eq_true] at h; simp [h]
/-- two words with the same bits are the same -/
theorem IsWord.ext {V U : Int} {f g : Nat → Bool} (h : IsWord V f) (h' : IsWord U g) (e : ∀ k, k < 32 → f k = g k) : V = U := by
  obtain ⟨N, rfl, hN, hf⟩ := h
  obtain ⟨M, rfl, hM, hg⟩ := h'
  congr 1
  apply Nat.eq_of_testBit_eq
  intro k
  by_cases hk : k < 32
  · rw [hf k hk, hg k hk, e k hk]
  · rw [Nat.testBit_lt_two_pow (Nat.lt_of_lt_of_le hN (Nat.pow_le_pow_right (by decide) (by omega))), Nat.testBit_lt_two_pow (Nat.lt_of_lt_of_le hM (Nat.pow_le_pow_right (by decide) (by omega)))]
theorem IsWord.bd {V : Int} {f : Nat → Bool} (h : IsWord V f) : 0 ≤ V ∧ V < 4294967296 := by
  obtain ⟨N, rfl, hN, _⟩ := h; omega
/-- from above, a bit a round; from below, a bit a round -/
def top (V : Int) (k : Nat) : Int := V / 2 ^ k
def bot (V : Int) (k : Nat) : Int := V % 2 ^ k
theorem IsWord.top_bd {V : Int} {f : Nat → Bool} (h : IsWord V f) (k : Nat) : 0 ≤ top V k ∧ top V k < 4294967296 := by
  have hb := h.bd
  unfold top
  refine ⟨Int.ediv_nonneg hb.1 (Int.pow_nonneg (by decide)), ?_⟩
  have := Int.ediv_le_self (2 ^ k) hb.1
  omega
theorem IsWord.top_step {V : Int} {f : Nat → Bool} (h : IsWord V f) (k : Nat) (hk : k < 32) : 2 * top V (k + 1) + ((f k).toNat : Int) = top V k := by
  obtain ⟨N, rfl, hN, hf⟩ := h
  have := half N k
  rw [hf k hk] at this
  unfold top
  have e1 : (N : Int) / 2 ^ k = ((N / 2 ^ k : Nat) : Int) := by rw [pow_cast]; push_cast; rfl
  have e2 : (N : Int) / 2 ^ (k + 1) = ((N / 2 ^ (k + 1) : Nat) : Int) := by rw [pow_cast]; push_cast; rfl
  rw [e1, e2, this]
  omega
theorem IsWord.top_32 {V : Int} {f : Nat → Bool} (h : IsWord V f) : top V 32 = 0 := by
  have hb := h.bd
  unfold top; omega
theorem top_0 (V : Int) : top V 0 = V := by unfold top; simp
theorem bot_0 (V : Int) : bot V 0 = 0 := by unfold bot; simp [Int.emod_one]
theorem IsWord.bot_32 {V : Int} {f : Nat → Bool} (h : IsWord V f) : bot V 32 = V := by
  have hb := h.bd
  unfold bot; omega
theorem IsWord.bot_step {V : Int} {f : Nat → Bool} (h : IsWord V f) (k : Nat) (hk : k < 32) : bits .or .i64 (bot V k) (wrap64 (((f k).toNat : Int) * 2 ^ k)) = bot V (k + 1) := by
  obtain ⟨N, rfl, hN, hf⟩ := h
  have hu := upto N k
  rw [hf k hk] at hu
  unfold bot
  have e1 : (N : Int) % 2 ^ k = ((N % 2 ^ k : Nat) : Int) := by rw [pow_cast]; push_cast; rfl
  have e2 : (N : Int) % 2 ^ (k + 1) = ((N % 2 ^ (k + 1) : Nat) : Int) := by rw [pow_cast]; push_cast; rfl
  have hp : (2 : Nat) ^ k ≤ 2 ^ 31 := Nat.pow_le_pow_right (by decide) (by omega)
  have hm : N % 2 ^ k < 2 ^ k := Nat.mod_lt _ (Nat.two_pow_pos k)
  rw [e1, e2, hu, pow_cast, ← Int.natCast_mul]
  cases f k
  · simp only [Bool.toNat_false, Nat.zero_mul, Nat.mul_zero, Nat.add_zero]
    rw [wrap64_in _ (by omega) (by omega)]
    have := or_nat (N % 2 ^ k) 0 (by omega) (by omega)
    rw [Nat.or_zero] at this
    exact this
  · simp only [Bool.toNat_true, Nat.one_mul, Nat.mul_one]
    rw [wrap64_in _ (by omega) (by omega), or_nat _ _ (by omega) (by omega), Nat.or_comm, Nat.add_comm]
    have := Nat.two_pow_add_eq_or_of_lt hm 1
    rw [Nat.mul_one] at this
    rw [this]
def pow2 (k : Nat) : Int := 2 ^ k
theorem pow2_pos (k : Nat) : 1 ≤ pow2 k := by unfold pow2; rw [pow_cast]; have := Nat.two_pow_pos k; omega
theorem pow2_bd (k : Nat) (h : k ≤ 61) : 1 ≤ pow2 k ∧ pow2 k ≤ 2305843009213693952 := by
  refine ⟨pow2_pos k, ?_⟩
  unfold pow2; rw [pow_cast]
  have : (2 : Nat) ^ k ≤ 2 ^ 61 := Nat.pow_le_pow_right (by decide) h
  omega
theorem pow2_succ (k : Nat) : pow2 (k + 1) = pow2 k * 2 := by unfold pow2; rw [Int.pow_succ]
theorem rbit_eq (a i : Int) : (wrap a / pow2 (cnt i)).tmod 2 = bit a i := by
  rw [Int.tmod_eq_emod_of_nonneg (Int.ediv_nonneg (wrap_bd a).1 (Int.le_trans (by decide) (pow2_pos _)))]; rfl
theorem rshl_eq (a n : Int) : mul a (pow2 (cnt n)) = shl a n := by
  unfold mul shl wrap pow2
  generalize (2 : Int) ^ cnt n = p
  have e : ∀ x y : Int, x % 4294967296 * y % 4294967296 = x * y % 4294967296 := fun x y => by
    rw [Int.mul_emod (x % 4294967296) y, Int.emod_emod_of_dvd x (Int.dvd_refl _), ← Int.mul_emod]
  exact (e a p).symm
theorem xor_bit_up (A k : Nat) (h : A.testBit k = false) : A ^^^ 2 ^ k = A + 2 ^ k := by
  have e : A ^^^ 2 ^ k = A ||| 2 ^ k := by
    apply Nat.eq_of_testBit_eq
    intro i
    rw [Nat.testBit_xor, Nat.testBit_or, Nat.testBit_two_pow]
    by_cases hi : k = i
    · subst hi; simp [h]
    · simp [hi]
  have hu := upto A k
  replace hu : A % 2 ^ (k + 1) = A % 2 ^ k := by rw [hu, h]; simp
  have hd := Nat.div_add_mod A (2 ^ (k + 1))
  rw [hu] at hd
  have := or_bit (A / 2 ^ (k + 1)) (A % 2 ^ k) k (Nat.mod_lt _ (Nat.two_pow_pos k))
  rw [hd] at this
  rw [e, this]
theorem xor_bit_down (A k : Nat) (h : A.testBit k = true) : (A ^^^ 2 ^ k) + 2 ^ k = A := by
  have hb : (A ^^^ 2 ^ k).testBit k = false := by rw [Nat.testBit_xor, Nat.testBit_two_pow, h]; simp
  rw [← xor_bit_up _ _ hb, Nat.xor_assoc, Nat.xor_self, Nat.xor_zero]
theorem flip_nat (a n : Int) : flip a n = (((wrap a).toNat ^^^ 2 ^ cnt n : Nat) : Int) := by
  have hc := cnt_lt n
  unfold flip xor
  have hp : (2 : Nat) ^ cnt n < 2 ^ 32 := Nat.pow_lt_pow_right (by decide) (by omega)
  rw [pow_cast, wrap_nat _ hp]
theorem rflip_t (a n : Int) (h : (bit a n == 1) = true) : wrap a - pow2 (cnt n) = flip a n := by
  have hw := wrap_bd a
  rw [beq_iff_eq, bit_is] at h
  have ht : (wrap a).toNat.testBit (cnt n) = true := by
    cases e : (wrap a).toNat.testBit (cnt n)
    · rw [e] at h; simp at h
    · rfl
  have := xor_bit_down _ _ ht
  rw [flip_nat]; unfold pow2; rw [pow_cast]; omega
theorem rflip_f (a n : Int) (h : (bit a n == 1) = false) : wrap a + pow2 (cnt n) = flip a n := by
  have hw := wrap_bd a
  rw [beq_eq_false_iff_ne, bit_is] at h
  have ht : (wrap a).toNat.testBit (cnt n) = false := by
    cases e : (wrap a).toNat.testBit (cnt n)
    · rfl
    · rw [e] at h; simp at h
  have := xor_bit_up _ _ ht
  rw [flip_nat, this]; unfold pow2; rw [pow_cast]; omega
/-! ### the rounds of the document's word, from above -/
theorem step_not (a : Int) (k : Nat) (hk : k < 32) : 2 * top (not a) (k + 1) + (1 - bit a (k : Int)) = top (not a) k := by
  rw [← (isWord_not a).top_step k hk, bit_nat a k hk]
  cases (wrap a).toNat.testBit k <;> rfl
theorem step_and (a b : Int) (k : Nat) (hk : k < 32) : 2 * top (and a b) (k + 1) + bit a (k : Int) * bit b (k : Int) = top (and a b) k := by
  rw [← (isWord_and a b).top_step k hk, bit_nat a k hk, bit_nat b k hk]
  cases (wrap a).toNat.testBit k <;> cases (wrap b).toNat.testBit k <;> rfl
theorem step_or (a b : Int) (k : Nat) (hk : k < 32) : 2 * top (or a b) (k + 1) + (if bit a (k : Int) < bit b (k : Int) then bit b (k : Int) else bit a (k : Int)) = top (or a b) k := by
  rw [← (isWord_or a b).top_step k hk, bit_nat a k hk, bit_nat b k hk]
  cases (wrap a).toNat.testBit k <;> cases (wrap b).toNat.testBit k <;> rfl
theorem step_xor (a b : Int) (k : Nat) (hk : k < 32) : 2 * top (xor a b) (k + 1) + (bit a (k : Int) + bit b (k : Int)) % 2 = top (xor a b) k := by
  rw [← (isWord_xor a b).top_step k hk, bit_nat a k hk, bit_nat b k hk]
  cases (wrap a).toNat.testBit k <;> cases (wrap b).toNat.testBit k <;> rfl
theorem bit_t {a : Int} {k : Nat} (hk : k < 32) (h : (bit a (k : Int) == 1) = true) : (wrap a).toNat.testBit k = true := by
  rw [beq_iff_eq, bit_nat a k hk] at h
  cases e : (wrap a).toNat.testBit k
  · rw [e] at h; simp at h
  · rfl
theorem bit_f {a : Int} {k : Nat} (hk : k < 32) (h : (bit a (k : Int) == 1) = false) : (wrap a).toNat.testBit k = false := by
  rw [beq_eq_false_iff_ne, bit_nat a k hk] at h
  cases e : (wrap a).toNat.testBit k
  · rfl
  · rw [e] at h; simp at h
theorem step_sel_t (m a b : Int) (k : Nat) (hk : k < 32) (h : (bit m (k : Int) == 1) = true) : 2 * top (select m a b) (k + 1) + bit a (k : Int) = top (select m a b) k := by
  rw [← (isWord_select m a b).top_step k hk, bit_nat a k hk, bit_t hk h]; simp
theorem step_sel_f (m a b : Int) (k : Nat) (hk : k < 32) (h : (bit m (k : Int) == 1) = false) : 2 * top (select m a b) (k + 1) + bit b (k : Int) = top (select m a b) k := by
  rw [← (isWord_select m a b).top_step k hk, bit_nat b k hk, bit_f hk h]; simp
theorem up_sel_t (m a b : Int) (k : Nat) (hk : k < 32) (h : (bit m (k : Int) == 1) = true) : bits .or .i64 (bot (select m a b) k) (wrap64 (bit a (k : Int) * 2 ^ k)) = bot (select m a b) (k + 1) := by
  rw [← (isWord_select m a b).bot_step k hk, bit_nat a k hk, bit_t hk h]; simp
theorem up_sel_f (m a b : Int) (k : Nat) (hk : k < 32) (h : (bit m (k : Int) == 1) = false) : bits .or .i64 (bot (select m a b) k) (wrap64 (bit b (k : Int) * 2 ^ k)) = bot (select m a b) (k + 1) := by
  rw [← (isWord_select m a b).bot_step k hk, bit_nat b k hk, bit_f hk h]; simp
theorem bits_prod (a b i : Int) : 0 ≤ bit a i * bit b i ∧ bit a i * bit b i ≤ 1 := by
  have h1 := bit_bd a i
  have h2 := bit_bd b i
  rcases (show bit a i = 0 ∨ bit a i = 1 by omega) with h | h <;> rw [h] <;> omega
theorem bot_bd (V : Int) (k : Nat) : 0 ≤ bot V k := Int.emod_nonneg _ (by have := pow2_pos k; unfold pow2 at this; omega)
/-! ### the rounds of shifts with the sign, and of turns -/
theorem wn (a : Int) : (wrap a).toNat < 2 ^ 32 := by have := wrap_bd a; omega
theorem ror_round (A k : Nat) (hk : k < 32) : (rorN A k : Int) / 2 + (rorN A k : Int) % 2 * 2147483648 = (rorN A (k + 1) : Int) := by
  rw [← rorN_step A k hk]; omega
theorem sar_round (A k : Nat) (hA : A < 2 ^ 32) (hk : k < 32) : (sarN A k : Int) / 2 + (sarN A k : Int) / 2147483648 * 2147483648 = (sarN A (k + 1) : Int) := by
  rw [← sarN_step A k hA hk]; omega
theorem bit31 (a : Int) : bit a 31 = ((wrap a).toNat / 2 ^ 31 : Nat) := by
  have h := wn a
  have := bit_nat a 31 (by decide)
  rw [Nat.toNat_testBit] at this
  have e : ((31 : Nat) : Int) = 31 := rfl
  rw [e] at this
  rw [this]; congr 1; omega
theorem shr_nat (a n : Int) : shr a n = ((wrap a).toNat / 2 ^ cnt n : Nat) := by
  have h := wrap_bd a
  unfold shr
  obtain ⟨A, hA⟩ := Int.eq_ofNat_of_zero_le h.1
  rw [hA, pow_cast]; push_cast; rfl
theorem sarW_round (a : Int) (k i : Nat) (hk : k < 32) (hi : i < k) : bits .or .i64 (sarW (wrap a).toNat k i : Int) (wrap64 (bit a 31 * 2 ^ (31 - i))) = (sarW (wrap a).toNat k (i + 1) : Int) := by
  have h := wn a
  have hb := bit_bd a 31
  rw [bit31] at hb ⊢
  have hp : (2 : Nat) ^ (31 - i) ≤ 2 ^ 31 := Nat.pow_le_pow_right (by decide) (by omega)
  rw [← sarW_step _ k i h hk hi, pow_cast, ← Int.natCast_mul]
  have hm : (wrap a).toNat / 2 ^ 31 * 2 ^ (31 - i) ≤ 1 * 2 ^ 31 := Nat.mul_le_mul (by omega) hp
  rw [wrap64_in _ (by omega) (by omega), or_nat _ _ (sarW_lt _ k i h (by omega) (by omega)) (by omega)]
end Go.Proofs.Ytennhpfhgbmnfaa.Wd
