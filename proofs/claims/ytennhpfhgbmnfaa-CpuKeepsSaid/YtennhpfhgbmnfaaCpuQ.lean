/-
  Plain mathematics of stage 8's outright laws: comparisons; what is kept; what is done twice.
-/
import Derived.Test.YtennhpfhgbmnfaaCpuM3
namespace Go.Proofs.Ytennhpfhgbmnfaa.Cs
open Go.RowKit

/-! ### comparisons -/
theorem cmp_size : ∀ n, n < 8 → ∀ m, m < 8 → Th.size ⟨23, 0, ((n : Nat) : Int), ((m : Nat) : Int), 0, 0, 0, false⟩ = 2 := by decide +kernel
theorem cmp_stepB (n m : Nat) (hn : n < 8) (hm : m < 8) : stepB ⟨23, 0, (n : Int), (m : Int), 0, 0, 0, false⟩ = true := by
  unfold stepB; rw [cmp_size n hn m hm]; rfl
theorem cmp_stepS (s : St) (n m : Nat) (hn : n < 8) (hm : m < 8) (l : Int) : stepS s ⟨23, 0, (n : Int), (m : Int), 0, 0, 0, false⟩ l = { cmp (words s) (Wd.wrap (s.r n)) (Wd.wrap (s.r m)) with pc := Wd.add (Wd.wrap s.pc) 2 } := by
  unfold stepS; rw [cmp_size n hn m hm]; rfl
theorem bit_N (a b : Int) : (Wd.bit (Wd.sub a b) 31 == 1) = decide (2147483648 ≤ (a - b) % 4294967296) := by
  rw [Wd.bit31]
  have e : (Wd.wrap (Wd.sub a b)).toNat = ((a - b) % 4294967296).toNat := by unfold Wd.wrap Wd.sub; omega
  rw [e, Bool.eq_iff_iff]
  simp only [beq_iff_eq, decide_eq_true_eq]
  omega
/-- n and v of a comparison, as one sign -/
theorem cmp_nv (a b : Int) (a0 : 0 ≤ a) (a1 : a < 4294967296) (b0 : 0 ≤ b) (b1 : b < 4294967296) :
    ((Wd.bit (Wd.sub a b) 31 == 1) == (decide (sgn a - sgn b < -2147483648) || decide (2147483647 < sgn a - sgn b))) = decide (sgn b ≤ sgn a) := by
  rw [bit_N]
  have ha := sgn_bd a a0 a1
  have hb := sgn_bd b b0 b1
  have e : (a - b) % 4294967296 = (sgn a - sgn b) % 4294967296 := by unfold sgn; split <;> split <;> omega
  rw [e]
  generalize sgn a = x at *
  generalize sgn b = y at *
  clear e
  by_cases h1 : x - y < -2147483648
  · have h2 : ¬ 2147483648 ≤ (x - y) % 4294967296 := by omega
    have h3 : ¬ y ≤ x := by omega
    simp [h1, h2, h3]
  · by_cases h2 : 2147483647 < x - y
    · have h3 : 2147483648 ≤ (x - y) % 4294967296 := by omega
      have h4 : y ≤ x := by omega
      simp [h2, h3, h4]
    · by_cases h4 : y ≤ x
      · have h3 : ¬ 2147483648 ≤ (x - y) % 4294967296 := by omega
        simp [h1, h2, h3, h4]
      · have h3 : 2147483648 ≤ (x - y) % 4294967296 := by omega
        simp [h1, h2, h3, h4]
theorem sgn_inj (a b : Int) (a0 : 0 ≤ a) (a1 : a < 4294967296) (b0 : 0 ≤ b) (b1 : b < 4294967296) : (a = b) ↔ sgn a = sgn b := by
  unfold sgn; split <;> split <;> omega
section
variable (s : St) (p a b : Int)
def cmpP : St := { cmp s a b with pc := p }
theorem cmp_0 : holds (cmpP s p a b) 0 = (a == b) := rfl
theorem cmp_1 : holds (cmpP s p a b) 1 = (a != b) := rfl
theorem cmp_2 : holds (cmpP s p a b) 2 = decide (b ≤ a) := rfl
theorem cmp_3 : holds (cmpP s p a b) 3 = decide (a < b) := by
  show (!decide (b ≤ a)) = _
  rw [← decide_not, decide_eq_decide]; omega
theorem cmp_8 : holds (cmpP s p a b) 8 = decide (b < a) := by
  show (decide (b ≤ a) && !(a == b)) = _
  rw [Bool.eq_iff_iff]; simp; omega
theorem cmp_9 : holds (cmpP s p a b) 9 = decide (a ≤ b) := by
  show (!decide (b ≤ a) || (a == b)) = _
  rw [Bool.eq_iff_iff]; simp; omega
variable (a0 : 0 ≤ a) (a1 : a < 4294967296) (b0 : 0 ≤ b) (b1 : b < 4294967296)
include a0 a1 b0 b1
theorem cmp_10 : holds (cmpP s p a b) 10 = decide (sgn b ≤ sgn a) := cmp_nv a b a0 a1 b0 b1
theorem cmp_11 : holds (cmpP s p a b) 11 = decide (sgn a < sgn b) := by
  show (!((Wd.bit (Wd.sub a b) 31 == 1) == (decide (sgn a - sgn b < -2147483648) || decide (2147483647 < sgn a - sgn b)))) = _
  rw [cmp_nv a b a0 a1 b0 b1, ← decide_not, decide_eq_decide]; omega
theorem cmp_12 : holds (cmpP s p a b) 12 = decide (sgn b < sgn a) := by
  show (!(a == b) && ((Wd.bit (Wd.sub a b) 31 == 1) == (decide (sgn a - sgn b < -2147483648) || decide (2147483647 < sgn a - sgn b)))) = _
  rw [cmp_nv a b a0 a1 b0 b1, Bool.eq_iff_iff]
  have := sgn_inj a b a0 a1 b0 b1
  simp [this]; omega
theorem cmp_13 : holds (cmpP s p a b) 13 = decide (sgn a ≤ sgn b) := by
  show ((a == b) || !((Wd.bit (Wd.sub a b) 31 == 1) == (decide (sgn a - sgn b < -2147483648) || decide (2147483647 < sgn a - sgn b)))) = _
  rw [cmp_nv a b a0 a1 b0 b1, Bool.eq_iff_iff]
  have := sgn_inj a b a0 a1 b0 b1
  simp [this]; omega
end
theorem xor_nat (x y : Nat) (hx : x < 4294967296) (hy : y < 4294967296) : bits .xor .i64 (x : Int) (y : Int) = ((x ^^^ y : Nat) : Int) := by
  have hor : x ^^^ y < 2 ^ 32 := Nat.xor_lt_two_pow (by omega) (by omega)
  show IntKind.i64.wrap ((BitVec.ofInt 64 (x : Int) ^^^ BitVec.ofInt 64 (y : Int)).toNat : Int) = _
  rw [BitVec.toNat_xor, Wd.ofInt_toNat, Wd.ofInt_toNat]
  have e1 : ((x : Int) % 18446744073709551616).toNat = x := by omega
  have e2 : ((y : Int) % 18446744073709551616).toNat = y := by omega
  rw [e1, e2, Wd.i64_small _ (by omega)]
theorem sgn_xor (a : Int) (a0 : 0 ≤ a) (a1 : a < 4294967296) : bits .xor .i64 a 2147483648 - 2147483648 = sgn a := by
  obtain ⟨A, rfl⟩ := Int.eq_ofNat_of_zero_le a0
  have e := xor_nat A 2147483648 (by omega) (by decide)
  rw [show ((2147483648 : Nat) : Int) = 2147483648 from rfl] at e
  rw [e]
  have e31 : (2147483648 : Nat) = 2 ^ 31 := by decide
  rw [e31]
  have ht : A.testBit 31 = decide (2147483648 ≤ A) := by
    rw [Nat.testBit_eq_decide_div_mod_eq]
    rw [decide_eq_decide]
    omega
  unfold sgn
  by_cases h : 2147483648 ≤ A
  · have h2 := Wd.xor_bit_down A 31 (by rw [ht]; simpa using h)
    rw [if_pos (by omega)]
    omega
  · have h2 := Wd.xor_bit_up A 31 (by rw [ht]; simpa using h)
    rw [if_neg (by omega)]
    omega

/-! ### what is kept -/
theorem stepB_no {i : Th.Ins} (h : stepB i = false) : ((Th.check i != 0) || (i.op == 2)) = true := by
  unfold stepB at h
  cases h2 : (i.op == 2)
  · rw [h2] at h
    have h0 : (Th.size i == 0) = true := by simpa using h
    rw [size_0 i h0]; rfl
  · simp
theorem stepB_yes {i : Th.Ins} (h : stepB i = true) : Th.check i = 0 ∧ (Th.size i == 0) = false ∧ (i.op == 2) = false := by
  unfold stepB at h
  simp only [Bool.not_eq_true', Bool.or_eq_false_iff] at h
  exact ⟨size_check i h.1, h.1, h.2⟩
theorem stepS_no (s : St) {i : Th.Ins} (l : Int) (h : stepB i = false) : stepS s i l = words s := by
  have hx : (Th.size i == 0 || i.op == 2) = true := by
    cases e : (Th.size i == 0 || i.op == 2) with
    | true => rfl
    | false => unfold stepB at h; rw [e] at h; cases h
  unfold stepS
  rw [if_pos hx]
theorem stepS_yes (s : St) {i : Th.Ins} (l : Int) (h : stepB i = true) : stepS s i l = if taken s i.op i.cond then { words s with pc := Wd.add (Wd.wrap s.pc) (4 + i.imm) } else { made (words s) i l with pc := Wd.add (Wd.wrap s.pc) (Th.size i) } := by
  obtain ⟨-, h1, h2⟩ := stepB_yes h
  unfold stepS
  rw [h1, h2, Bool.or_false, if_neg (by decide)]
theorem put_other (s : St) (k j : Nat) (x : Int) (h : j ≠ k) : (put s k x).r j = s.r j := by unfold put; simp [h]
theorem made_r (s : St) (i : Th.Ins) (l : Int) (k : Nat) (h1 : k ≠ i.rd.toNat) (h2 : i.op = 17 → k ≠ i.ra.toNat) : (made s i l).r k = s.r k := by
  unfold made
  by_cases h23 : (i.op == 23) = true
  · rw [if_pos h23]; rfl
  · rw [if_neg h23]
    by_cases h17 : (i.op == 17) = true
    · simp only [h17, if_true]
      rw [put_other _ _ _ _ (h2 (by simpa using h17)), put_other _ _ _ _ h1]
    · simp only [h17]
      exact put_other _ _ _ _ h1
theorem keeps_r (s : St) {i : Th.Ins} (l : Int) (h : stepB i = true) (k : Nat) (h1 : (k : Int) ≠ i.rd) (h2 : ¬ ((k : Int) = i.ra ∧ i.op = 17)) : (stepS s i l).r k = Wd.wrap (s.r k) := by
  have hr := in_regs (stepB_yes h).1
  rw [stepS_yes s l h]
  split
  · rfl
  · refine made_r (words s) i l k (by omega) (fun h17 => ?_)
    obtain ⟨op, rd, rn, rm, ra, imm, cond, wide⟩ := i
    simp only at h17
    subst h17
    have := in_17 (stepB_yes h).1
    have h2' : (k : Int) ≠ ra := fun e => h2 ⟨e, rfl⟩
    show k ≠ ra.toNat
    omega
theorem made_flags (s : St) (i : Th.Ins) (l : Int) (h23 : (i.op == 23) = false) : (made s i l).n = s.n ∧ (made s i l).z = s.z ∧ (made s i l).c = s.c ∧ (made s i l).v = s.v := by
  unfold made
  rw [if_neg (by rw [h23]; decide)]
  by_cases h17 : (i.op == 17) = true
  · simp only [h17, if_true]; exact ⟨rfl, rfl, rfl, rfl⟩
  · simp only [h17]; exact ⟨rfl, rfl, rfl, rfl⟩
theorem keeps_flags (s : St) {i : Th.Ins} (l : Int) (h : stepB i = true) (h23 : (i.op == 23) = false) : (stepS s i l).n = s.n ∧ (stepS s i l).z = s.z ∧ (stepS s i l).c = s.c ∧ (stepS s i l).v = s.v := by
  rw [stepS_yes s l h]
  split
  · exact ⟨rfl, rfl, rfl, rfl⟩
  · exact made_flags (words s) i l h23
theorem keeps_pc (s : St) {i : Th.Ins} (l : Int) (h : stepB i = true) (h24 : (i.op == 24) = false) (h25 : (i.op == 25) = false) : (stepS s i l).pc = Wd.add (Wd.wrap s.pc) (Th.size i) := by
  rw [stepS_yes s l h, if_neg (by simp [taken, h24, h25])]
theorem keeps_pc0 (s : St) {i : Th.Ins} (l : Int) (h : stepB i = false) : (stepS s i l).pc = Wd.wrap s.pc := by rw [stepS_no s l h]; rfl
theorem and_add (a b : Int) : bits .and .i64 (wrap64 (a + b)) 4294967295 = Wd.add (Wd.wrap a) b := by rw [Wd.and_ones]; unfold Wd.add Wd.wrap wrap64; omega
end Go.Proofs.Ytennhpfhgbmnfaa.Cs
