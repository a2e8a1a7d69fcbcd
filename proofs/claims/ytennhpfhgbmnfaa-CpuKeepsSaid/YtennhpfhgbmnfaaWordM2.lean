/-
  Laws of sums, products, masks and turned bits on numbers of 32 bits, as plain mathematics.
-/
import Derived.Test.YtennhpfhgbmnfaaWordM
namespace Go.Proofs.Ytennhpfhgbmnfaa.Wd
open Go.RowKit
/-! ### rings -/
theorem sub_add (a b : Int) : sub (add a b) b = wrap a := by unfold sub add wrap; omega
theorem mul_add (a b c : Int) : mul a (add b c) = add (mul a b) (mul a c) := by
  unfold mul add
  have e : ∀ x y : Int, x * (y % 4294967296) % 4294967296 = x * y % 4294967296 := fun x y => by
    rw [Int.mul_emod x (y % 4294967296), Int.emod_emod_of_dvd y (Int.dvd_refl _), ← Int.mul_emod]
  rw [e, Int.mul_add, ← Int.add_emod]
theorem add_not (a : Int) : add a (not a) = not 0 := by unfold add not wrap; omega
theorem less_carry (a b : Int) : sub 0 (less (add a b) b) = carry a b := by
  unfold less mask
  by_cases h : wrap (add a b) < wrap b
  · rw [if_pos (by simpa using h)]
    revert h; unfold sub carry add wrap; intro h; omega
  · rw [if_neg (by simpa using h)]
    revert h; unfold sub carry add wrap; intro h; omega
/-! ### back -/
theorem flip_flip (a i : Int) : flip (flip a i) i = wrap a := by
  have h := wrap_bd a
  have hc := cnt_lt i
  have hp : (2 : Nat) ^ cnt i < 2 ^ 32 := Nat.pow_lt_pow_right (by decide) (by omega)
  rw [flip_nat, flip_nat a, wrap_nat _ (Nat.xor_lt_two_pow (by omega) hp), Nat.xor_assoc, Nat.xor_self, Nat.xor_zero]
  omega
theorem flip_tb (a i : Int) (k : Nat) : (wrap (flip a i)).toNat.testBit k = ((wrap a).toNat.testBit k ^^ decide (cnt i = k)) := by
  have h := wrap_bd a
  have hc := cnt_lt i
  have hp : (2 : Nat) ^ cnt i < 2 ^ 32 := Nat.pow_lt_pow_right (by decide) (by omega)
  rw [flip_nat, wrap_nat _ (Nat.xor_lt_two_pow (by omega) hp), Nat.testBit_xor, Nat.testBit_two_pow]
theorem flip_same (a i k : Int) (h : cnt i = cnt k) : (bit (flip a i) k != bit a k) = true := by
  rw [bit_is, bit_is, flip_tb, h, decide_eq_true (rfl : cnt k = cnt k)]
  cases (wrap a).toNat.testBit (cnt k) <;> rfl
theorem flip_other (a i k : Int) (h : ¬ cnt i = cnt k) : (bit (flip a i) k != bit a k) = false := by
  rw [bit_is, bit_is, flip_tb]
  cases (wrap a).toNat.testBit (cnt k) <;> simp [h]
theorem cnt_wrap (i : Int) : (cnt i : Int) = wrap i % 32 := by unfold cnt wrap; omega
theorem rorN_back (A n : Nat) (hA : A < 2 ^ 32) (hn : n ≤ 32) : rorN (rorN A n) (32 - n) = A := by
  have h1 := div_lt A n hA hn
  have h2 : 32 - (32 - n) = n := by omega
  have hp : 0 < 2 ^ (32 - n) := Nat.two_pow_pos _
  have e1 : rorN A n / 2 ^ (32 - n) = A % 2 ^ n := by
    unfold rorN
    rw [Nat.add_mul_div_right _ _ hp, Nat.div_eq_of_lt h1, Nat.zero_add]
  have e2 : rorN A n % 2 ^ (32 - n) = A / 2 ^ n := by
    unfold rorN
    rw [Nat.add_mul_mod_self_right, Nat.mod_eq_of_lt h1]
  have e3 : rorN (rorN A n) (32 - n) = A % 2 ^ n + A / 2 ^ n * 2 ^ n := by
    rw [show rorN (rorN A n) (32 - n) = rorN A n / 2 ^ (32 - n) + rorN A n % 2 ^ (32 - n) * 2 ^ (32 - (32 - n)) from rfl, e1, e2, h2]
  rw [e3, Nat.mul_comm]
  exact Nat.mod_add_div A (2 ^ n)
theorem ror_back (a i : Int) : ror (ror a (wrap i % 32)) (32 - wrap i % 32) = wrap a := by
  have h := wrap_bd a
  have hA := wn a
  have e1 : cnt (wrap i % 32) = cnt i := by unfold cnt wrap; omega
  have hc := cnt_lt i
  have e2 : cnt (32 - wrap i % 32) = (32 - cnt i) % 32 := by unfold cnt wrap; omega
  unfold ror
  rw [e1, e2, wrap_nat _ (rorN_lt _ _ hA (by omega))]
  by_cases hz : cnt i = 0
  · rw [hz, show (32 - 0) % 32 = 0 from rfl, rorN_zero, rorN_zero]; omega
  · rw [Nat.mod_eq_of_lt (by omega), rorN_back _ _ hA (by omega)]; omega
theorem beq_t {x y : Int} (h : x = y) : (x == y) = true := by rw [h]; simp
theorem bne_f {x y : Int} (h : x = y) : (x != y) = false := by rw [h]; simp
end Go.Proofs.Ytennhpfhgbmnfaa.Wd
